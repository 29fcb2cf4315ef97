import Derived.Test.YtlggejehaonkcaaDoorA13
import Derived.Test.YtlggejehaonkcaaDoorA04
import Derived.Deep.RegionHeld3
import Derived.Deep.MidRow
import Derived.Lib.Small
import Derived.Lib.ConvBytes
import Derived.RangeFuncNested
import Derived.RangeFuncBound
import Derived.RangeFuncCalls
import Derived.RangeFuncLeaves
import Derived.RangeFuncWrites
import Derived.OrdersIn
import Derived.TacticsIn
namespace Go.Proofs.YtlggejehaonkcaaDoor
open Go.RowKit
set_option linter.unusedSimpArgs false
set_option linter.unusedVariables false

theorem Tryd.in6 (w : World) (vs : Array Value) : (callFunc 6 vs).run Tryd.prog w = .ok (.enter 6 vs) w := by kernel_rfl
theorem rdJ_pay (F : Nat → Option (List Int)) : ∀ (n k : Nat) (s : JV), (∀ p ∈ s.ps, PayOk p) → ∀ p ∈ (rdJ F n k s).ps, PayOk p
 | 0, k, s, hs => hs
 | n + 1, k, s, hs => by
  rw [rdJ]
  cases hF : F k with
  | none => exact hs
  | some b =>
   have hm : ∀ p ∈ (s.more k b).ps, PayOk p := fun p hp => by
    rcases List.mem_append.1 (show p ∈ s.ps ++ rdB b from hp) with h1 | h1
    ·exact hs p h1
    ·exact rdB_all b p h1
   simp only
   split
   ·exact hm
   ·exact rdJ_pay F n (k + 1) (s.more k b) hm
theorem openV_pay (F : Nat → Option (List Int)) : ∀ p ∈ (openV F).ps, PayOk p := rdJ_pay F 256 0 JV.nil fun p hp => by cases hp
theorem RwN.at {w : World} {a : Option Addr} {n c : Nat} {ls : List (List Int)} {N : Nat → Prop} (h : RwN w (.slice a n c) ls N) (t : Nat) (ht : t < ls.length) : ∃ q o pa pc, a = some ⟨q, o, none⟩ ∧ w.cell? ⟨q, o + t, none⟩ = some (.slice pa (ls.getD t []).length pc) ∧ RowAt w (.slice pa (ls.getD t []).length pc) (ls.getD t []) ∧ ∀ k, (Value.slice pa (ls.getD t []).length pc).ownBlock = some k → N k := by
 obtain ⟨vs, h1, _, h2, h3⟩ := h
 rcases h1.form with ⟨_, h4⟩ | ⟨g, cap, cur, e, h4, h5, h6⟩
 ·rw [h4] at h2
  simp at h2
  omega
 ·injection e with e1 _ _
  subst e1
  obtain ⟨pa, pc, hv⟩ := row_form (h3 t ht).1
  refine ⟨g, 0, pa, pc, rfl, ?_, by rw [← hv]; exact (h3 t ht).1, by rw [← hv]; exact (h3 t ht).2⟩
  rw [h4.cell, Nat.zero_add, ← hv]
  have : vs[t]? = some (vs.getD t noS) := by rw [List.getD_eq_getElem?_getD, List.getElem?_eq_getElem (by omega)]; rfl
  rw [← this, ← h6, List.getElem?_take, if_pos (by omega), Array.getElem?_toList]
theorem Tryd.mkMap (w : World) : (Instr.makeMap 59 none).run Tryd.prog w = .ok (.map (some w.heap.size)) (w.alloc (.map #[] 0)) := by kernel_rfl
theorem sto_built (g m : Nat) : Tryd.prog.built 62 [(0, ptr g), (2, .map (some m))] = some (sA g (.slice none 0 0) m false) := by kernel_rfl
def BOpen (D : DV) (d p : Nat) (N : Nat → Prop) (w : World) (e : Ending) (w' : World) : Prop :=
 ∃ (s g m : Nat) (vl : Value) (L : List BX) (D' : DV) (B C : Nat), e = .returned (.tuple #[ptr s, .int .i64 0]) ∧ MPost D D' 0 (openV (Fk D.fs)) ∧ StoAt w' s g m vl L false ∧ L.map (·.1) = (openV (Fk D.fs)).ps ∧ w.heap.size ≤ B ∧ B ≤ C ∧ C ≤ w'.heap.size ∧
  DskN w' d p D' (fun k => (N k ∨ B ≤ k) ∧ k < C) ∧ JAt w' g d (openV (Fk D.fs)) false false (fun k => w.heap.size ≤ k ∧ k < B) ∧ C ≤ s ∧ C ≤ m ∧ (∀ k, vl.ownBlock = some k → C ≤ k) ∧ (∀ x ∈ L, ∀ k, x.2.ownBlock = some k → w.heap.size ≤ k ∧ k < B) ∧ Grown w w' N
set_option maxRecDepth 8000 in
set_option maxHeartbeats 2000000 in
theorem bopen_any (d p : Nat) (D : DV) (N : Nat → Prop) (w : World) (hT : Tab w) (hDN : DskN w d p D N) (hN0 : ¬ N 0) (hNd : ¬ N d) (hNl : ∀ k, N k → k < w.heap.size) (hOk : DOk D) (hO : D.out = false) (hA : D.acts ≤ 4611686018427380000) (hFu : D.fuse = -1) (hDis : DisK (openV (Fk D.fs)).ps) (hln : (openV (Fk D.fs)).ps.length ≤ 1000000000) :
  Calls Tryd.prog 6 #[ptr d] w (BOpen D d p N w) := by
 have HT := Keep.mk hT
 have HDN := Keep.mk hDN
 have HN0 := Keep.mk hN0
 have HNd := Keep.mk hNd
 have HNl := Keep.mk hNl
 have HOk := Keep.mk hOk
 have HO := Keep.mk hO
 have HA := Keep.mk hA
 have HFu := Keep.mk hFu
 have HDis := Keep.mk hDis
 have Hln := Keep.mk hln
 clear hT hDN hN0 hNd hNl hOk hO hA hFu hDis hln
 go_enter Tryd.func6, Tryd.ntmps6
 refine wp_seq_k fun K1 hK1 => rgn ?_
 refine VlS (.pointer none) ?_
 refine VlS (.int .i64 0) ?_
 refine WL.nil (hK1 _ _ ?_)
 refine wp_seq_k fun K2 hK2 => rgn ?_
 refine VlS (.pointer (some ⟨d, 0, none⟩)) ?_
 refine WL.callF (by kernel_rfl) 14 _ _ rfl Tryd.in14 #[ptr d] (by simp [Act.eval]) ?_
 refine (open_any d p D N w HT.out HDN.out HN0.out HNd.out HNl.out HOk.out HO.out HA.out).mono ?_
 rintro e w1 ⟨ee, D', B, h1, h2, h3, h4, h5, h6⟩
 have he0 : ee = 0 := (h1.fuse HFu.out).1
 subst he0
 rcases h6 with ⟨_, g, vl0, rfl, hj, hl⟩ | ⟨he, _⟩
 case inr => cases he
 have M1 := Keep.mk h1
 have LB : Keep (w.heap.size ≤ B ∧ B ≤ w1.heap.size) := ⟨h2, h3⟩
 have D1 := Keep.mk h4
 have G1 := Keep.mk h5
 have J1 := Keep.mk hj
 obtain ⟨xa, xc, rfl⟩ := hl.form
 obtain ⟨pn, hpn⟩ : ∃ z, Keep (z = (openV (Fk D.fs)).ps.length) := ⟨_, ⟨rfl⟩⟩
 have HPn : Keep (pn ≤ 1000000000) := ⟨by rw [hpn.out]; exact Hln.out⟩
 rw [← hpn.out] at hl ⊢
 have R1 := Keep.mk hl
 obtain ⟨C, hC⟩ : ∃ z, Keep (z = w1.heap.size) := ⟨_, ⟨rfl⟩⟩
 clear h1 h2 h3 h4 h5 hj hl
 refine ⟨_, rfl, ?_⟩
 simp only [Act.put, pqA, pqB, pqC]
 refine VlS (.tuple #[.pointer (some ⟨g, 0, none⟩), .slice xa pn xc, .int .i64 0]) ?_
 refine VlS (.pointer (some ⟨g, 0, none⟩)) ?_
 refine VlS (.slice xa pn xc) ?_
 refine VlS (.int .i64 0) ?_
 refine VlS (.pointer (some ⟨g, 0, none⟩)) ?_
 refine VlS (.slice xa pn xc) ?_
 refine VlS (.int .i64 0) ?_
 refine WL.nil (hK2 _ _ ?_)
 refine wp_seq_k fun K3 hK3 => ?_
 refine wp_seq_k fun K4 hK4 => rgn ?_
 refine VlS (.int .i64 0) ?_
 refine VlS (.bool false) ?_
 refine WL.nil (hK4 _ _ ?_)
 refine wp_cond_false rfl ?_
 refine wp_skip ?_
 refine hK3 _ _ ?_
 refine wp_seq_k fun K5 hK5 => rgn ?_
 refine VlS (.pointer (some ⟨g, 0, none⟩)) ?_
 refine WL.valW (by kernel_rfl) (.map (some w1.heap.size)) (w1.alloc (.map #[] 0)) (by go_simp; rw [Tryd.mkMap]; rfl) ?_
 have I2 := Keep.mk (IxK.new w1)
 have B2 := Keep.mk (below_new w1 (.map #[] 0))
 generalize w1.alloc (.map #[] 0) = w2 at *
 obtain ⟨m, hm⟩ : ∃ z, Keep (z = w1.heap.size) := ⟨_, ⟨rfl⟩⟩
 rw [← hm.out] at I2 ⊢
 simp only [Act.put, pqA, pqB, pqC]
 refine WL.bld (by kernel_rfl) 62 _ rfl [(0, ptr g), (2, .map (some m))] (by simp [Act.eval]) _ (sto_built g m) ?_
 simp only [Act.put, pqA, pqB, pqC]
 refine WL.box (by kernel_rfl) 62 (.tmp 23) rfl (sA g (.slice none 0 0) m false) rfl ?_
 have hbx := below_new w2 (.cells (sA g (.slice none 0 0) m false) 62)
 have X3 := Keep.mk (Blk.new w2 62 (sA g (.slice none 0 0) m false))
 have I3 := Keep.mk (I2.out.grown (Grown.below (S := fun _ => False) hbx) fun h => h)
 have B3 : Keep (Below C w1 (w2.alloc (.cells (sA g (.slice none 0 0) m false) 62))) := ⟨by rw [hC.out]; exact B2.out.trans (hbx.mono B2.out.size)⟩
 clear hbx
 change WL _ _ _ _ _ (w2.alloc (.cells (sA g (.slice none 0 0) m false) 62))
 generalize w2.alloc (.cells (sA g (.slice none 0 0) m false) 62) = w3 at *
 obtain ⟨s, hs⟩ : ∃ z, Keep (z = w2.heap.size) := ⟨_, ⟨rfl⟩⟩
 rw [← hs.out] at X3 ⊢
 have Ls : Keep (C ≤ s ∧ C ≤ m) := ⟨by rw [hs.out, hC.out]; exact B2.out.size, by rw [hm.out, hC.out]; exact Nat.le_refl _⟩
 have S3 : Keep (StoAt w3 s g m (.slice none 0 0) [] false) := ⟨⟨X3.out, I3.out, ownB_nil _, (fun x hx => by cases hx), fun x hx => by cases hx⟩⟩
 clear I2 B2 X3 I3 hm hs
 simp only [Act.put, pqA, pqB, pqC]
 refine VlS (.pointer (some ⟨s, 0, none⟩)) ?_
 refine WL.nil (hK5 _ _ ?_)
 refine wp_seq_k fun K6 hK6 => ?_
 refine wp_seq_k fun K7 hK7 => rgn ?_
 refine VlS (.slice xa pn xc) ?_
 refine VlS (.int .i64 (pn : Int)) ?_
 refine VlS (.int .i64 0) ?_
 refine WL.nil (hK7 _ _ ?_)
 refine wp_block ?_
 refine wp_loop (fun acx wr => ∃ (t : Nat) (y9 y10 y28 y29 y30 y31 y32 y33 y34 y35 y36 y37 y38 y39 y40 : Value) (vl : Value) (L : List BX), acx = { tmps := #[.pointer (some ⟨d, 0, none⟩), undef, .pointer none, .int .i64 0, .pointer (some ⟨g, 0, none⟩), .slice xa pn xc, .int .i64 0, .pointer (some ⟨s, 0, none⟩), undef, y9, y10, undef, .tuple #[.pointer (some ⟨g, 0, none⟩), .slice xa pn xc, .int .i64 0], .pointer (some ⟨d, 0, none⟩), .tuple #[.pointer (some ⟨g, 0, none⟩), .slice xa pn xc, .int .i64 0], .pointer (some ⟨g, 0, none⟩), .slice xa pn xc, .int .i64 0, .int .i64 0, .bool false, undef, .pointer (some ⟨g, 0, none⟩), .map (some m), .agg (sA g (.slice none 0 0) m false), .pointer (some ⟨s, 0, none⟩), .slice xa pn xc, .int .i64 (pn : Int), .int .i64 (t : Int), y28, y29, y30, y31, y32, y33, y34, y35, y36, y37, y38, y39, y40, undef, undef, undef, undef, undef, undef, undef, undef], defers := [] } ∧ t ≤ pn ∧ StoAt wr s g m vl L false ∧ L.map (·.1) = (openV (Fk D.fs)).ps.take t ∧ (∀ k, vl.ownBlock = some k → C ≤ k) ∧ (∀ x ∈ L, ∀ k, x.2.ownBlock = some k → w.heap.size ≤ k ∧ k < B) ∧ Below C w1 wr) (fun acx _ => pn - (intOf (acx.tmps.getD 27 undef)).toNat) ⟨0, undef, undef, undef, undef, undef, undef, undef, undef, undef, undef, undef, undef, undef, undef, undef, .slice none 0 0, [], rfl, Nat.zero_le _, S3.out, rfl, (fun k hk => by cases hk), (fun x hx => by cases hx), B3.out⟩ ?_
 clear S3 B3
 rintro acx wr ⟨t, y9, y10, y28, y29, y30, y31, y32, y33, y34, y35, y36, y37, y38, y39, y40, vl, L, rfl, ht, h1, h2, h3, h4, h5⟩
 have SR := Keep.mk h1
 have LR := Keep.mk h2
 have VR := Keep.mk h3
 have XR := Keep.mk h4
 have BR := Keep.mk h5
 clear h1 h2 h3 h4 h5
 have R2 : Keep (RwN wr (.slice xa pn xc) (openV (Fk D.fs)).ps fun k => w.heap.size ≤ k ∧ k < B) := ⟨R1.out.below (by have h := BR.out; rw [hC.out] at h; exact h)⟩
 by_cases hlt : t < pn
 ·have hlt' : (t : Int) < (pn : Int) := by omega
  have hwt : IntKind.i64.wrap ((t : Int) + 1) = (t : Int) + 1 := by rw [IntKind.wrap_i64]; have := HPn.out; omega
  have htl : t < (openV (Fk D.fs)).ps.length := by rw [← hpn.out]; exact hlt
  obtain ⟨b, ob, ya, yc, hq, y1, y2, y3⟩ := R2.out.at t htl
  subst hq
  have hpay : PayOk ((openV (Fk D.fs)).ps.getD t []) := openV_pay _ _ (by rw [List.getD_eq_getElem?_getD, List.getElem?_eq_getElem htl]; exact List.getElem_mem _)
  have hdis := HDis.out.at htl
  have htk : (openV (Fk D.fs)).ps.take (t + 1) = (openV (Fk D.fs)).ps.take t ++ [(openV (Fk D.fs)).ps.getD t []] := by rw [List.take_add_one, List.getElem?_eq_getElem htl, List.getD_eq_getElem?_getD, List.getElem?_eq_getElem htl]; rfl
  generalize (openV (Fk D.fs)).ps.getD t [] = qq at *
  obtain ⟨yn, hyn⟩ : ∃ z, Keep (z = qq.length) := ⟨_, ⟨rfl⟩⟩
  rw [← hyn.out] at y1 y2 y3
  have Y2 := Keep.mk y2
  have Y3 := Keep.mk y3
  have HPay := Keep.mk hpay
  have HDi : Keep (hasK (L.map (·.1)) qq = false) := ⟨by rw [LR.out]; exact hdis⟩
  have HTk := Keep.mk htk
  clear y2 y3 hpay hdis htk
  refine wp_seq_k fun K8 hK8 => rgn ?_
  refine VlS (.bool true) ?_
  refine WL.nil (hK8 _ _ ?_)
  refine wp_seq_k fun K9 hK9 => ?_
  refine wp_cond_true rfl ?_
  refine wp_skip ?_
  refine hK9 _ _ ?_
  refine wp_seq_k fun K10 hK10 => ?_
  refine wp_block ?_
  refine wp_seq_k fun K11 hK11 => rgn ?_
  refine VlS (.pointer (some ⟨b, ob + t, none⟩)) ?_
  refine VlS (.slice ya yn yc) ?_
  refine VlS (.slice ya yn yc) ?_
  refine WL.nil (hK11 _ _ ?_)
  refine wp_seq_k fun K12 hK12 => rgn ?_
  refine VlS (.slice ya yn yc) ?_
  clear y1
  refine WL.callF (by kernel_rfl) 15 _ _ rfl Tryd.in15 #[.slice ya yn yc] (by simp [Act.eval]) ?_
  refine (of_any _ qq wr Y2.out (by have := HPay.out.2; omega)).mono ?_
  rintro e w4 ⟨rfl, h4⟩
  refine ⟨_, rfl, ?_⟩
  have S4 := Keep.mk (SR.out.below h4)
  have B4 : Keep (Below C w1 w4) := ⟨BR.out.trans (h4.mono (by rw [hC.out]; exact BR.out.size))⟩
  have Y4 := Keep.mk (Y2.out.below h4)
  clear h4 SR BR Y2 R2
  simp only [Act.put, pqA, pqB, pqC]
  refine WL.new (by kernel_rfl) 38 rfl _ Tryd.newHb ?_
  have hbx := below_new w4 (.cells (bytesA 32 fun _ => 0) 38)
  have HP5 := Keep.mk (Blk.new w4 38 (bytesA 32 fun _ => 0))
  have S5 := Keep.mk (S4.out.below hbx)
  have B45 := Keep.mk hbx
  have B5 : Keep (Below C w1 (w4.alloc (.cells (bytesA 32 fun _ => 0) 38))) := ⟨B4.out.trans (hbx.mono (by rw [hC.out]; exact B4.out.size))⟩
  have Y5 := Keep.mk (Y4.out.below hbx)
  clear hbx
  change WL _ _ _ _ _ (w4.alloc (.cells (bytesA 32 fun _ => 0) 38))
  generalize w4.alloc (.cells (bytesA 32 fun _ => 0) 38) = w5 at *
  obtain ⟨q, hq⟩ : ∃ z, Keep (z = w4.heap.size) := ⟨_, ⟨rfl⟩⟩
  rw [← hq.out] at HP5 ⊢
  simp only [Act.put, pqA, pqB, pqC]
  refine WL.storeR (by kernel_rfl) 38 (.tmp 10) (.tmp 32) rfl q (bytesA 32 (shaP qq)) rfl rfl 38 (bytesA 32 fun _ => 0) HP5.out (Tryd.size38B _) (bytesA_sizes _ _ _) (bytesA_one _ _) ?_
  have hgs : Grown w4 (w5.setRow q (bytesA 32 (shaP qq))) fun _ => False := Grown.below (below_setRow (by have h := hq.out; exact B45.out) (by rw [hq.out]; exact Nat.le_refl _) _)
  have HP6 := Keep.mk (HP5.out.setRow (bytesA 32 (shaP qq)))
  have S6 : Keep (StoAt (w5.setRow q (bytesA 32 (shaP qq))) s g m vl L false) := ⟨S4.out.grown hgs fun _ _ h => h⟩
  have B6 : Keep (Below C w1 (w5.setRow q (bytesA 32 (shaP qq)))) := ⟨below_setRow B5.out (by rw [hq.out]; have := B4.out.size; have := hC.out; omega) _⟩
  have Y6 : Keep (RowAt (w5.setRow q (bytesA 32 (shaP qq))) (.slice ya yn yc) qq) := ⟨Y4.out.grown hgs fun _ _ _ h => h⟩
  clear hgs HP5 S5 B5 Y5 S4 B4 Y4 B45 hq
  generalize w5.setRow q (bytesA 32 (shaP qq)) = w6 at *
  simp only [Act.put]
  refine WL.nil (hK12 _ _ ?_)
  refine wp_seq_k fun K13 hK13 => ?_
  refine wp_seq_k fun K14 hK14 => rgn ?_
  refine VlS (.pointer (some ⟨s, 0, none⟩)) ?_
  refine WL.row (by kernel_rfl) 38 (.tmp 10) rfl q rfl 38 (bytesA 32 (shaP qq)) _ HP6.out Tryd.underlying38 rfl (Tryd.size38B _) ?_
  simp only [Act.put, pqA, pqB, pqC]
  refine WL.callF (by kernel_rfl) 16 _ _ rfl Tryd.in16 #[ptr s, .agg (bytesA 32 (shaP qq))] (by simp [Act.eval]) ?_
  refine (has_any s g m vl L false qq w6 S6.out).mono ?_
  rintro e w7 ⟨rfl, h7⟩
  refine ⟨_, rfl, ?_⟩
  rw [HDi.out]
  have S7 := Keep.mk (S6.out.below h7)
  have B7 : Keep (Below C w1 w7) := ⟨B6.out.trans (h7.mono (by rw [hC.out]; exact B6.out.size))⟩
  have Y7 := Keep.mk (Y6.out.below h7)
  have HP7 := Keep.mk (HP6.out.below h7 HP6.out.lt)
  clear h7 S6 B6 Y6 HP6
  simp only [Act.put, pqA, pqB, pqC]
  refine WL.nil (hK14 _ _ ?_)
  refine wp_cond_false rfl ?_
  refine wp_skip ?_
  refine hK13 _ _ ?_
  refine rgn ?_
  refine VlS (.pointer (some ⟨s, 0, none⟩)) ?_
  refine WL.row (by kernel_rfl) 38 (.tmp 10) rfl q rfl 38 (bytesA 32 (shaP qq)) _ HP7.out Tryd.underlying38 rfl (Tryd.size38B _) ?_
  obtain ⟨va, vc, hvl⟩ := S7.out.ol.sl
  obtain ⟨n, hn⟩ : ∃ z, Keep (z = L.length) := ⟨_, ⟨rfl⟩⟩
  rw [← hn.out] at hvl
  subst hvl
  have Hnt : Keep (n = t) := ⟨by have h := congrArg List.length LR.out; rw [List.length_map, List.length_take] at h; have := hn.out; have := hpn.out; omega⟩
  simp only [Act.put, pqA, pqB, pqC]
  refine VlS (.slice ya yn yc) ?_
  refine WL.callF (by kernel_rfl) 17 _ _ rfl Tryd.in17 #[ptr s, .agg (bytesA 32 (shaP qq)), .slice ya yn yc] (by simp [Act.eval]) ?_
  refine (add_any s g m n vc yn yc va ya L false qq w7 S7.out Y7.out (fun k hk => by have h := Y3.out k hk; have := Ls.out; have := LB.out; have := hC.out; exact ⟨by omega, by omega, fun e => by have := VR.out k e; omega⟩) (fun e => by have := HPay.out.1; rw [e] at this; simp at this) HDi.out hn.out (by have := Hnt.out; have := HPn.out; omega)).mono ?_
  rintro e w8 ⟨rfl, vl8, a1, a2, a3⟩
  refine ⟨_, rfl, ?_⟩
  have S8 := Keep.mk a1
  have V8 : Keep (∀ k, vl8.ownBlock = some k → C ≤ k) := ⟨fun k hk => by rcases a3 k hk with h | h; exact VR.out k h; have := B7.out.size; have := hC.out; omega⟩
  have B8 : Keep (Below C w1 w8) := ⟨B7.out.trans (a2.to_below (fun k hk e => by have := Ls.out; rcases e with e | e | e; omega; omega; have := VR.out k e; omega) (by have := B7.out.size; have := hC.out; omega))⟩
  clear a1 a2 a3 S7 B7
  simp only [Act.put, pqA, pqB, pqC]
  refine WL.nil (hK10 _ _ ?_)
  refine rgn ?_
  refine VlS (.int .i64 ((t : Int) + 1)) ?_
  refine VlS (.int .i64 ((t : Int) + 1)) ?_
  refine WL.nil ?_
  refine ⟨⟨t + 1, .slice ya yn yc, .pointer (some ⟨q, 0, none⟩), .bool true, .pointer (some ⟨b, ob + t, none⟩), .slice ya yn yc, .slice ya yn yc, .agg (bytesA 32 (shaP qq)), .pointer (some ⟨s, 0, none⟩), .agg (bytesA 32 (shaP qq)), .bool false, .pointer (some ⟨s, 0, none⟩), .agg (bytesA 32 (shaP qq)), .slice ya yn yc, undef, .int .i64 ((t : Int) + 1), vl8, L ++ [(qq, .slice ya yn yc)], rfl, by omega, S8.out, by rw [List.map_append, LR.out, HTk.out]; rfl, V8.out, (fun x hx k hk => ?_), B8.out⟩, by simp only [intOf]; show pn - ((t : Int) + 1).toNat < pn - ((t : Int)).toNat; omega⟩
  rcases List.mem_append.1 hx with hx | hx
  ·exact XR.out x hx k hk
  ·rw [List.mem_singleton.1 hx] at hk; exact Y3.out k hk
 ·have htl' : ¬ (t : Int) < (pn : Int) := by omega
  have hte : (openV (Fk D.fs)).ps.take t = (openV (Fk D.fs)).ps := List.take_of_length_le (by rw [← hpn.out]; omega)
  have HL := Keep.mk (LR.out.trans hte)
  clear hte
  obtain ⟨-, vp, hjb, hjp, hjm⟩ := J1.out
  obtain ⟨pa, pc, rfl⟩ := hjp.sl
  rw [openV_len, ← hpn.out] at hjb hjm hjp
  have hjl := hjb.lt
  have hjr : Blk wr g 81 (jA d (.slice pa pn pc) (openV (Fk D.fs)).pr (openV (Fk D.fs)).sz false false) := hjb.below BR.out (by rw [hC.out]; exact hjl)
  have HJR := Keep.mk hjr
  clear hjb hjp hjm hjl hjr
  have Hnl : Keep (L.length = pn) := ⟨by have h := congrArg List.length HL.out; rw [List.length_map] at h; rw [h, hpn.out]⟩
  refine wp_seq_k fun K15 hK15 => rgn ?_
  refine VlS (.bool false) ?_
  refine WL.nil (hK15 _ _ ?_)
  refine wp_seq_k fun K16 hK16 => ?_
  refine wp_cond_false rfl ?_
  refine wp_exit ?_
  refine hK6 _ _ ?_
  refine wp_seq_k fun K17 hK17 => ?_
  refine wp_seq_k fun K18 hK18 => rgn ?_
  refine VlS (.pointer (some ⟨g, 0, none⟩)) ?_
  refine VlS (.pointer (some ⟨s, 0, none⟩)) ?_
  refine WL.callF (by kernel_rfl) 8 _ _ rfl Tryd.in8 #[ptr s] (by simp [Act.eval]) ?_
  refine (slen_any s g m vl L false wr SR.out).mono ?_
  rintro e w9 ⟨rfl, hw⟩
  refine ⟨_, rfl, ?_⟩
  obtain rfl : wr = w9 := hw.symm
  clear hw
  rw [Hnl.out]
  simp only [Act.put, pqA, pqB, pqC]
  refine WL.callF (by kernel_rfl) 18 _ _ rfl Tryd.in18 #[ptr g, .int .i64 (pn : Int)] (by simp [Act.eval]) ?_
  refine (keep_same g d pn pc pa _ _ false wr HJR.out).mono ?_
  rintro e w9 ⟨rfl, hw⟩
  refine ⟨_, rfl, ?_⟩
  obtain rfl : wr = w9 := hw.symm
  clear hw
  simp only [Act.put, pqA, pqB, pqC]
  refine VlS (.int .i64 0) ?_
  refine WL.nil (hK18 _ _ ?_)
  refine wp_seq_k fun K19 hK19 => rgn ?_
  refine VlS (.int .i64 0) ?_
  refine VlS (.bool false) ?_
  refine WL.nil (hK19 _ _ ?_)
  refine wp_cond_false rfl ?_
  refine wp_skip ?_
  refine hK17 _ _ ?_
  refine wp_seq_k fun K20 hK20 => rgn ?_
  refine VlS (.pointer (some ⟨s, 0, none⟩)) ?_
  refine VlS (.pointer (some ⟨s, 0, none⟩)) ?_
  refine VlS (.int .i64 0) ?_
  refine WL.nil (hK20 _ _ ?_)
  refine wp_ret ?_
  go_ret2
  refine ⟨s, g, m, vl, L, D', B, C, rfl, M1.out, SR.out, HL.out, LB.out.1, by rw [hC.out]; exact LB.out.2, by rw [hC.out]; exact BR.out.size, ?_, ?_, Ls.out.1, Ls.out.2, VR.out, XR.out, G1.out.next (Grown.below (S := fun _ => False) (by have h := BR.out; rw [hC.out] at h; exact h)) fun _ _ h => h.elim⟩
  ·rw [hC.out]; exact D1.out.below (by have h := BR.out; rw [hC.out] at h; exact h)
  ·exact J1.out.grown (Grown.below (S := fun _ => False) (by have h := BR.out; rw [hC.out] at h; exact h)) fun _ _ h => h
theorem Tryd.in9 (w : World) (vs : Array Value) : (callFunc 9 vs).run Tryd.prog w = .ok (.enter 9 vs) w := by kernel_rfl
theorem Tryd.in10 (w : World) (vs : Array Value) : (callFunc 10 vs).run Tryd.prog w = .ok (.enter 10 vs) w := by kernel_rfl
theorem JDN.grown {w w' : World} {g d p : Nat} {D : DV} {V : JV} {la de : Bool} {N S : Nat → Prop} (h : JDN w g d p D V la de N) (hg : Grown w w' S) (hd : ¬ S d) (hs : ∀ k, N k → ¬ S k) : JDN w' g d p D V la de N := by
 obtain ⟨h1, vf, cs, vp, h2, h3, h4, h5⟩ := h
 have hD : DskN w d p D (DskS p vf cs) := ⟨h1, vf, cs, h2, fun k hk => hk⟩
 have h6 := h2
 refine ⟨hg.blk h1 hd, vf, cs, vp, ?_, hg.blk h3 (hs g (h5 g (.inr (.inl rfl)))), h4.grown hg fun k hk => hs k (h5 k (.inr (.inr hk))), h5⟩
 have hl : ∀ k, DskS p vf cs k → ¬ S k := fun k hk => hs k (h5 k (.inl hk))
 refine ⟨hg.blk h2.blk (hl p (.inl rfl)), h2.own.grown hg fun k hk => hl k (.inr (.inl hk)), h2.fcs.len, fun i x f hx hf => ?_, h2.fcs.apart⟩
 have h4 := h2.fcs.each i x f hx hf
 exact ⟨h4.1, h4.2.1, h4.2.2.grown hg fun k hk => hl k (.inr (.inr ⟨i, x, hx, hk⟩))⟩
def SD (w : World) (s g m d p : Nat) (D : DV) (V : JV) (la : Bool) (U : Nat → Prop) : Prop :=
 ∃ vl L N, StoAt w s g m vl L false ∧ L.map (·.1) = V.ps ∧ JDN w g d p D V la false N ∧ (∀ k, N k → U k ∧ ¬ StS s m vl L k) ∧ (∀ k, StS s m vl L k → U k) ∧ DisK V.ps
theorem SD.grown {w w' : World} {s g m d p : Nat} {D : DV} {V : JV} {la : Bool} {U S : Nat → Prop} (h : SD w s g m d p D V la U) (hg : Grown w w' S) (hd : ¬ S d) (hs : ∀ k, U k → ¬ S k) : SD w' s g m d p D V la U := by
 obtain ⟨vl, L, N, h1, h2, h3, h4, h5, h6⟩ := h
 exact ⟨vl, L, N, h1.grown hg fun k hk => hs k (h5 k hk), h2, h3.grown hg hd fun k hk => hs k (h4 k hk).1, h4, h5, h6⟩
theorem SD.below {w w' : World} {s g m d p : Nat} {D : DV} {V : JV} {la : Bool} {U : Nat → Prop} (h : SD w s g m d p D V la U) (hb : Below w.heap.size w w') : SD w' s g m d p D V la U := h.grown (Grown.below (S := fun _ => False) hb) (fun h => h) fun _ _ h => h
theorem SD.mono {w : World} {s g m d p : Nat} {D : DV} {V : JV} {la : Bool} {U U' : Nat → Prop} (h : SD w s g m d p D V la U) (hu : ∀ k, U k → U' k) : SD w s g m d p D V la U' := by
 obtain ⟨vl, L, N, h1, h2, h3, h4, h5, h6⟩ := h
 exact ⟨vl, L, N, h1, h2, h3, fun k hk => ⟨hu k (h4 k hk).1, (h4 k hk).2⟩, fun k hk => hu k (h5 k hk), h6⟩
theorem JDN.dsk {w : World} {g d p : Nat} {D : DV} {V : JV} {la de : Bool} {N M : Nat → Prop} (h : JDN w g d p D V la de N) (hm : ∀ k, N k → M k) : DskN w d p D M := by
 obtain ⟨h1, vf, cs, vp, h2, _, _, h5⟩ := h
 exact ⟨h1, vf, cs, h2, fun k hk => hm k (h5 k (.inl hk))⟩
theorem JDN.mono {w : World} {g d p : Nat} {D : DV} {V : JV} {la de : Bool} {N M : Nat → Prop} (h : JDN w g d p D V la de N) (hm : ∀ k, N k → M k) : JDN w g d p D V la de M := by
 obtain ⟨h1, vf, cs, vp, h2, h3, h4, h5⟩ := h
 exact ⟨h1, vf, cs, vp, h2, h3, h4, fun k hk => hm k (h5 k hk)⟩
theorem slen_sd (s g m d p : Nat) (D : DV) (V : JV) (la : Bool) (U : Nat → Prop) (w : World) (h : SD w s g m d p D V la U) : Calls Tryd.prog 8 #[ptr s] w fun e w' => e = .returned (.int .i64 (V.ps.length : Int)) ∧ w' = w := by
 obtain ⟨vl, L, N, h1, h2, _⟩ := h
 have := slen_any s g m vl L false w h1
 rw [← h2, List.length_map]
 exact this
def AppG (JP : DV → JV → Bool → Prop) (CP : DV → Prop) (EP : Int → Prop) (D : DV) (V : JV) (l : List Int) (g d p : Nat) (N : Nat → Prop) (w : World) (e : Ending) (w' : World) : Prop :=
 ∃ (ee : Int) (D' : DV) (V' : JV) (la' de' : Bool), e = .returned (.int .i64 ee) ∧ JDN w' g d p D' V' la' de' (JN2 N w.heap.size w'.heap.size) ∧ Grown w w' N ∧ (D.acts ≤ D'.acts ∧ D'.acts ≤ D.acts + 300) ∧
  ((ee = 0 ∧ de' = false ∧ V'.ps = V.ps ++ [l] ∧ PayOk l ∧ JP D' V' la') ∨ (ee = 7 ∧ CP D') ∨ (EP ee ∧ de' = false ∧ V' = V ∧ JP D' V la'))
def PutG (JP : DV → JV → Bool → Prop) (CP : DV → Prop) (EP : Int → Prop) (D : DV) (V : JV) (l : List Int) (s g m d p : Nat) (U : Nat → Prop) (w : World) (e : Ending) (w' : World) : Prop :=
  ∃ (c : Nat → Int) (ee : Int), e = .returned (.tuple #[.agg (bytesA 32 c), .int .i64 ee]) ∧ Grown w w' U ∧
    ((ee ≠ 7 ∧ ∃ D' V' la', SD w' s g m d p D' V' la' (JN2 U w.heap.size w'.heap.size) ∧ JP D' V' la' ∧ D'.acts ≤ D.acts + 300 ∧ ((V'.ps = V.ps ∧ (ee = 0 ↔ hasK V.ps l = true)) ∨ (ee = 0 ∧ V'.ps = V.ps ++ [l] ∧ hasK V.ps l = false)) ∧ (ee = 0 ∨ EP ee)) ∨
     (ee = 7 ∧ hasK V.ps l = false ∧ ∃ D', DskN w' d p D' (JN2 U w.heap.size w'.heap.size) ∧ CP D' ∧ D'.acts ≤ D.acts + 300))
def AppOk (JP : DV → JV → Bool → Prop) (CP : DV → Prop) (EP : Int → Prop) (D : DV) (V : JV) (la : Bool) (l : List Int) (v : Value) (g d p : Nat) : Prop :=
 ∀ (N : Nat → Prop) (w : World), Tab w → JDN w g d p D V la false N → (∀ k, N k → k < w.heap.size) → ¬ N d → ¬ N 0 → RowAt w v l → (l ≠ [] → ∀ k, v.ownBlock = some k → ¬ N k) → Calls Tryd.prog 20 #[ptr g, v] w (AppG JP CP EP D V l g d p N w)
set_option maxRecDepth 8000 in
set_option maxHeartbeats 1000000 in
theorem put_known (JP : DV → JV → Bool → Prop) (CP : DV → Prop) (EP : Int → Prop) (s g m d p : Nat) (v : Value) (l : List Int) (D : DV) (V : JV) (la : Bool) (U : Nat → Prop) (w : World) (hT : Tab w) (hSD : SD w s g m d p D V la U) (hUl : ∀ k, U k → k < w.heap.size) (h0 : ¬ U 0) (hd : ¬ U d) (hFew : V.ps.length ≤ 1000000000) (hR : RowAt w v l) (hRn : l ≠ [] → ∀ k, v.ownBlock = some k → ¬ U k) (hL : l.length ≤ 140737488355328) (hX : JP D V la) (hK : hasK V.ps l = true) : Calls Tryd.prog 9 #[ptr s, v] w (PutG JP CP EP D V l s g m d p U w) := by
 have HX := Keep.mk hX
 clear hX
 obtain ⟨ba, bc, rfl⟩ := row_form hR
 have HSD := Keep.mk hSD
 obtain ⟨vl, L, N, hA, hLs, hJ, hN, hS, hDs⟩ := hSD
 have HT := Keep.mk hT
 have HA := Keep.mk hA
 have HLs := Keep.mk hLs
 have HJ := Keep.mk hJ
 have HN := Keep.mk hN
 have HS := Keep.mk hS
 have HDs := Keep.mk hDs
 have HUl := Keep.mk hUl
 have H0 := Keep.mk h0
 have Hd := Keep.mk hd
 have HFew := Keep.mk hFew
 have HR := Keep.mk hR
 have HRn := Keep.mk hRn
 have HL := Keep.mk hL
 have HK := Keep.mk hK
 clear hT hA hLs hJ hN hS hDs hUl h0 hd hFew hR hRn hL hK
 go_enter Tryd.func9, Tryd.ntmps9
 refine wp_seq_k fun K1 hK1 => rgn ?_
 refine WL.new (by kernel_rfl) 38 rfl _ Tryd.newHb ?_
 have R1 := Keep.mk (Blk.new w 38 (bytesA 32 fun _ => 0))
 have B1 := Keep.mk (below_new w (.cells (bytesA 32 fun _ => 0) 38))
 change WL _ _ _ _ _ (w.alloc (.cells (bytesA 32 fun _ => 0) 38))
 generalize w.alloc (.cells (bytesA 32 fun _ => 0) 38) = w1 at *
 obtain ⟨r, hr0⟩ : ∃ z, Keep (z = w.heap.size) := ⟨_, ⟨rfl⟩⟩
 rw [← hr0.out] at R1 ⊢
 have A1 := Keep.mk (HA.out.below B1.out)
 have Y1 := Keep.mk (HR.out.below B1.out)
 have c3 := A1.out.bs.c 3 (by rfl : (sA g vl m false)[3]? = some (.bool false))
 simp only [Act.put, pqA, pqB, pqC]
 refine VlS (.int .i64 0) ?_
 refine WL.nil (hK1 _ _ ?_)
 refine wp_seq_k fun K2 hK2 => ?_
 refine wp_seq_k fun K3 hK3 => rgn ?_
 refine VlS (.pointer (some ⟨s, 0, none⟩)) ?_
 refine VlS (.pointer (some ⟨s, 0, none⟩)) ?_
 refine VlS (.pointer (some ⟨s, 3, none⟩)) ?_
 refine VlS (.bool false) ?_
 refine WL.nil (hK3 _ _ ?_)
 refine wp_cond_false rfl ?_
 refine wp_skip ?_
 refine hK2 _ _ ?_
 refine wp_seq_k fun K4 hK4 => rgn ?_
 refine VlS (.slice ba l.length bc) ?_
 clear c3
 refine WL.callF (by kernel_rfl) 15 _ _ rfl Tryd.in15 #[.slice ba l.length bc] (by simp [Act.eval]) ?_
 refine (of_any _ l w1 Y1.out (by have := HL.out; omega)).mono ?_
 rintro e w2 ⟨rfl, h2⟩
 refine ⟨_, rfl, ?_⟩
 have A2 := Keep.mk (A1.out.below h2)
 have Y2 := Keep.mk (Y1.out.below h2)
 have R2 := Keep.mk (R1.out.below h2 R1.out.lt)
 have B2 : Keep (Below w.heap.size w w2) := ⟨B1.out.trans (h2.mono B1.out.size)⟩
 clear h2 A1 Y1 R1 B1
 simp only [Act.put, pqA, pqB, pqC]
 refine WL.new (by kernel_rfl) 38 rfl _ Tryd.newHb ?_
 have hbx := below_new w2 (.cells (bytesA 32 fun _ => 0) 38)
 have Q3 := Keep.mk (Blk.new w2 38 (bytesA 32 fun _ => 0))
 change WL _ _ _ _ _ (w2.alloc (.cells (bytesA 32 fun _ => 0) 38))
 generalize w2.alloc (.cells (bytesA 32 fun _ => 0) 38) = w3 at *
 obtain ⟨q, hq⟩ : ∃ z, Keep (z = w2.heap.size) := ⟨_, ⟨rfl⟩⟩
 rw [← hq.out] at Q3 ⊢
 have B23 := Keep.mk hbx
 clear hbx
 simp only [Act.put, pqA, pqB, pqC]
 refine WL.storeR (by kernel_rfl) 38 (.tmp 6) (.tmp 14) rfl q (bytesA 32 (shaP l)) rfl rfl 38 (bytesA 32 fun _ => 0) Q3.out (Tryd.size38B _) (bytesA_sizes _ _ _) (bytesA_one _ _) ?_
 have Q4 := Keep.mk (Q3.out.setRow (bytesA 32 (shaP l)))
 have hbs : Below w2.heap.size w2 (w3.setRow q (bytesA 32 (shaP l))) := below_setRow B23.out (by rw [hq.out]; exact Nat.le_refl _) _
 clear Q3 B23
 generalize w3.setRow q (bytesA 32 (shaP l)) = w4 at *
 have A4 := Keep.mk (A2.out.below hbs)
 have Y4 := Keep.mk (Y2.out.below hbs)
 have R4 := Keep.mk (R2.out.below hbs R2.out.lt)
 have B4 : Keep (Below w.heap.size w w4) := ⟨B2.out.trans (hbs.mono B2.out.size)⟩
 have Hqr : Keep (q ≠ r ∧ w.heap.size ≤ q ∧ w.heap.size ≤ r) := ⟨by have := R2.out.lt; have := hq.out; have := hr0.out; have := B2.out.size; omega⟩
 clear hbs A2 Y2 R2 B2 hq
 simp only [Act.put]
 refine WL.nil (hK4 _ _ ?_)
 refine wp_seq_k fun K5 hK5 => ?_
 refine wp_seq_k fun K6 hK6 => rgn ?_
 refine VlS (.pointer (some ⟨s, 0, none⟩)) ?_
 refine WL.row (by kernel_rfl) 38 (.tmp 6) rfl q rfl 38 (bytesA 32 (shaP l)) _ Q4.out Tryd.underlying38 rfl (Tryd.size38B _) ?_
 simp only [Act.put, pqA, pqB, pqC]
 refine WL.callF (by kernel_rfl) 16 _ _ rfl Tryd.in16 #[ptr s, .agg (bytesA 32 (shaP l))] (by simp [Act.eval]) ?_
 refine (has_any s g m vl L false l w4 A4.out).mono ?_
 rintro e w5 ⟨rfl, h5⟩
 refine ⟨_, rfl, ?_⟩
 rw [HLs.out, HK.out]
 have A5 := Keep.mk (A4.out.below h5)
 have Y5 := Keep.mk (Y4.out.below h5)
 have R5 := Keep.mk (R4.out.below h5 R4.out.lt)
 have Q5 := Keep.mk (Q4.out.below h5 Q4.out.lt)
 have B5 : Keep (Below w.heap.size w w5) := ⟨B4.out.trans (h5.mono B4.out.size)⟩
 clear h5 A4 Y4 R4 Q4 B4
 simp only [Act.put, pqA, pqB, pqC]
 refine WL.nil (hK6 _ _ ?_)
 refine wp_cond_true rfl ?_
 refine wp_seq_k fun K7 hK7 => rgn ?_
 refine WL.row (by kernel_rfl) 38 (.tmp 6) rfl q rfl 38 (bytesA 32 (shaP l)) _ Q5.out Tryd.underlying38 rfl (Tryd.size38B _) ?_
 simp only [Act.put, pqA, pqB, pqC]
 refine WL.storeR (by kernel_rfl) 38 (.tmp 4) (.tmp 18) rfl r (bytesA 32 (shaP l)) rfl rfl 38 (bytesA 32 fun _ => 0) R5.out (Tryd.size38B _) (bytesA_sizes _ _ _) (bytesA_one _ _) ?_
 have R6 := Keep.mk (R5.out.setRow (bytesA 32 (shaP l)))
 have B6 : Keep (Below w.heap.size w (w5.setRow r (bytesA 32 (shaP l)))) := ⟨below_setRow B5.out Hqr.out.2.2 _⟩
 generalize w5.setRow r (bytesA 32 (shaP l)) = w6 at *
 simp only [Act.put]
 refine VlS (.int .i64 0) ?_
 refine WL.nil (hK7 _ _ ?_)
 refine wp_ret ?_
 try simp only [Exit.inBlock, Exit.then]
 refine bodyPost_ret (v := .tuple #[.agg (bytesA 32 (shaP l)), .int .i64 0]) (results_cell_row2 Tryd.results9 _ _ r 38 _ (0, 0) _ _ rfl rfl R6.out Tryd.underlying38 rfl (Tryd.size38B _)) rfl ?_
 exact ⟨_, _, rfl, Grown.below B6.out, .inl ⟨by decide, D, V, la, (HSD.out.below B6.out).mono fun k hk => ⟨.inl hk, by have := HUl.out k hk; have := B6.out.size; omega⟩, HX.out, by omega, .inl ⟨rfl, by simp [HK.out]⟩, .inl rfl⟩⟩
theorem h_built : Tryd.prog.built 38 [] = some (bytesA 32 fun _ => 0) := by kernel_rfl
set_option maxRecDepth 8000 in
set_option maxHeartbeats 2000000 in
theorem put_new (JP : DV → JV → Bool → Prop) (CP : DV → Prop) (EP : Int → Prop) (s g m d p : Nat) (v : Value) (l : List Int) (D : DV) (V : JV) (la : Bool) (U : Nat → Prop) (w : World) (hT : Tab w) (hSD : SD w s g m d p D V la U) (hUl : ∀ k, U k → k < w.heap.size) (h0 : ¬ U 0) (hd : ¬ U d) (hFew : V.ps.length ≤ 1000000000) (hR : RowAt w v l) (hRn : l ≠ [] → ∀ k, v.ownBlock = some k → ¬ U k) (hL : l.length ≤ 140737488355328) (hEP : ∀ x, EP x → x ≠ 0 ∧ x ≠ 7) (hApp : AppOk JP CP EP D V la l v g d p) (hK : hasK V.ps l = false) : Calls Tryd.prog 9 #[ptr s, v] w (PutG JP CP EP D V l s g m d p U w) := by
 have HEP := Keep.mk hEP
 have HApp := Keep.mk hApp
 clear hEP hApp
 obtain ⟨ba, bc, rfl⟩ := row_form hR
 have HSD := Keep.mk hSD
 obtain ⟨vl, L, N, hA, hLs, hJ, hN, hS, hDs⟩ := hSD
 have HT := Keep.mk hT
 have HA := Keep.mk hA
 have HLs := Keep.mk hLs
 have HJ := Keep.mk hJ
 have HN := Keep.mk hN
 have HS := Keep.mk hS
 have HDs := Keep.mk hDs
 have HUl := Keep.mk hUl
 have H0 := Keep.mk h0
 have Hd := Keep.mk hd
 have HFew := Keep.mk hFew
 have HR := Keep.mk hR
 have HRn := Keep.mk hRn
 have HL := Keep.mk hL
 have HK := Keep.mk hK
 clear hT hA hLs hJ hN hS hDs hUl h0 hd hFew hR hRn hL hK
 go_enter Tryd.func9, Tryd.ntmps9
 refine wp_seq_k fun K1 hK1 => rgn ?_
 refine WL.new (by kernel_rfl) 38 rfl _ Tryd.newHb ?_
 have R1 := Keep.mk (Blk.new w 38 (bytesA 32 fun _ => 0))
 have B1 := Keep.mk (below_new w (.cells (bytesA 32 fun _ => 0) 38))
 change WL _ _ _ _ _ (w.alloc (.cells (bytesA 32 fun _ => 0) 38))
 generalize w.alloc (.cells (bytesA 32 fun _ => 0) 38) = w1 at *
 obtain ⟨r, hr0⟩ : ∃ z, Keep (z = w.heap.size) := ⟨_, ⟨rfl⟩⟩
 rw [← hr0.out] at R1 ⊢
 have A1 := Keep.mk (HA.out.below B1.out)
 have Y1 := Keep.mk (HR.out.below B1.out)
 have c3 := A1.out.bs.c 3 (by rfl : (sA g vl m false)[3]? = some (.bool false))
 simp only [Act.put, pqA, pqB, pqC]
 refine VlS (.int .i64 0) ?_
 refine WL.nil (hK1 _ _ ?_)
 refine wp_seq_k fun K2 hK2 => ?_
 refine wp_seq_k fun K3 hK3 => rgn ?_
 refine VlS (.pointer (some ⟨s, 0, none⟩)) ?_
 refine VlS (.pointer (some ⟨s, 0, none⟩)) ?_
 refine VlS (.pointer (some ⟨s, 3, none⟩)) ?_
 refine VlS (.bool false) ?_
 refine WL.nil (hK3 _ _ ?_)
 refine wp_cond_false rfl ?_
 refine wp_skip ?_
 refine hK2 _ _ ?_
 refine wp_seq_k fun K4 hK4 => rgn ?_
 refine VlS (.slice ba l.length bc) ?_
 clear c3
 refine WL.callF (by kernel_rfl) 15 _ _ rfl Tryd.in15 #[.slice ba l.length bc] (by simp [Act.eval]) ?_
 refine (of_any _ l w1 Y1.out (by have := HL.out; omega)).mono ?_
 rintro e w2 ⟨rfl, h2⟩
 refine ⟨_, rfl, ?_⟩
 have A2 := Keep.mk (A1.out.below h2)
 have Y2 := Keep.mk (Y1.out.below h2)
 have R2 := Keep.mk (R1.out.below h2 R1.out.lt)
 have B2 : Keep (Below w.heap.size w w2) := ⟨B1.out.trans (h2.mono B1.out.size)⟩
 clear h2 A1 Y1 R1 B1
 simp only [Act.put, pqA, pqB, pqC]
 refine WL.new (by kernel_rfl) 38 rfl _ Tryd.newHb ?_
 have hbx := below_new w2 (.cells (bytesA 32 fun _ => 0) 38)
 have Q3 := Keep.mk (Blk.new w2 38 (bytesA 32 fun _ => 0))
 change WL _ _ _ _ _ (w2.alloc (.cells (bytesA 32 fun _ => 0) 38))
 generalize w2.alloc (.cells (bytesA 32 fun _ => 0) 38) = w3 at *
 obtain ⟨q, hq⟩ : ∃ z, Keep (z = w2.heap.size) := ⟨_, ⟨rfl⟩⟩
 rw [← hq.out] at Q3 ⊢
 have B23 := Keep.mk hbx
 clear hbx
 simp only [Act.put, pqA, pqB, pqC]
 refine WL.storeR (by kernel_rfl) 38 (.tmp 6) (.tmp 14) rfl q (bytesA 32 (shaP l)) rfl rfl 38 (bytesA 32 fun _ => 0) Q3.out (Tryd.size38B _) (bytesA_sizes _ _ _) (bytesA_one _ _) ?_
 have Q4 := Keep.mk (Q3.out.setRow (bytesA 32 (shaP l)))
 have hbs : Below w2.heap.size w2 (w3.setRow q (bytesA 32 (shaP l))) := below_setRow B23.out (by rw [hq.out]; exact Nat.le_refl _) _
 clear Q3 B23
 generalize w3.setRow q (bytesA 32 (shaP l)) = w4 at *
 have A4 := Keep.mk (A2.out.below hbs)
 have Y4 := Keep.mk (Y2.out.below hbs)
 have R4 := Keep.mk (R2.out.below hbs R2.out.lt)
 have B4 : Keep (Below w.heap.size w w4) := ⟨B2.out.trans (hbs.mono B2.out.size)⟩
 have Hqr : Keep (q ≠ r ∧ w.heap.size ≤ q ∧ w.heap.size ≤ r) := ⟨by have := R2.out.lt; have := hq.out; have := hr0.out; have := B2.out.size; omega⟩
 clear hbs A2 Y2 R2 B2 hq
 simp only [Act.put]
 refine WL.nil (hK4 _ _ ?_)
 refine wp_seq_k fun K5 hK5 => ?_
 refine wp_seq_k fun K6 hK6 => rgn ?_
 refine VlS (.pointer (some ⟨s, 0, none⟩)) ?_
 refine WL.row (by kernel_rfl) 38 (.tmp 6) rfl q rfl 38 (bytesA 32 (shaP l)) _ Q4.out Tryd.underlying38 rfl (Tryd.size38B _) ?_
 simp only [Act.put, pqA, pqB, pqC]
 refine WL.callF (by kernel_rfl) 16 _ _ rfl Tryd.in16 #[ptr s, .agg (bytesA 32 (shaP l))] (by simp [Act.eval]) ?_
 refine (has_any s g m vl L false l w4 A4.out).mono ?_
 rintro e w5 ⟨rfl, h5⟩
 refine ⟨_, rfl, ?_⟩
 rw [HLs.out, HK.out]
 have A5 := Keep.mk (A4.out.below h5)
 have Y5 := Keep.mk (Y4.out.below h5)
 have R5 := Keep.mk (R4.out.below h5 R4.out.lt)
 have Q5 := Keep.mk (Q4.out.below h5 Q4.out.lt)
 have B5 : Keep (Below w.heap.size w w5) := ⟨B4.out.trans (h5.mono B4.out.size)⟩
 clear h5 A4 Y4 R4 Q4 B4
 simp only [Act.put, pqA, pqB, pqC]
 refine WL.nil (hK6 _ _ ?_)
 refine wp_cond_false rfl ?_
 refine wp_skip ?_
 refine hK5 _ _ ?_
 refine wp_seq_k fun K7 hK7 => ?_
 refine wp_seq_k fun K8 hK8 => rgn ?_
 refine VlS (.pointer (some ⟨s, 0, none⟩)) ?_
 refine VlS (.pointer (some ⟨s, 0, none⟩)) ?_
 refine VlS (.pointer (some ⟨s, 0, none⟩)) ?_
 refine VlS (.pointer (some ⟨s, 0, none⟩)) ?_
 have c0 := A5.out.bs.c 0 (by rfl : (sA g vl m false)[0]? = some (ptr g))
 refine VlS (.pointer (some ⟨g, 0, none⟩)) ?_
 refine VlS (.slice ba l.length bc) ?_
 clear c0
 refine WL.callF (by kernel_rfl) 20 _ _ rfl Tryd.in20 #[ptr g, .slice ba l.length bc] (by simp [Act.eval]) ?_
 refine (HApp.out N w5 (HT.out.below B5.out (by have := HJ.out.1.lt; omega)) (HJ.out.grown (Grown.below (S := fun _ => False) B5.out) (fun h => h) fun _ _ h => h) (fun k hk => by have := HUl.out k (HN.out k hk).1; have := B5.out.size; omega) (fun e => Hd.out (HN.out d e).1) (fun e => H0.out (HN.out 0 e).1) Y5.out (fun h k hk e => HRn.out h k hk (HN.out k e).1)).mono ?_
 rintro e w6 ⟨x, D6, V6, la6, de6, rfl, h1, h2, h3, h4⟩
 have J6 := Keep.mk h1
 have G6 := Keep.mk h2
 have X6 := Keep.mk h3
 have Z6 := Keep.mk h4
 clear h1 h2 h3 h4
 have A6 : Keep (StoAt w6 s g m vl L false) := ⟨A5.out.grown G6.out fun k hk e => (HN.out k e).2 hk⟩
 have Hr5 : Keep (r < w5.heap.size) := ⟨R5.out.lt⟩
 have Hnr : Keep (¬ N r ∧ ¬ N q) := ⟨fun e => by have := HUl.out r (HN.out r e).1; have := Hqr.out; omega, fun e => by have := HUl.out q (HN.out q e).1; have := Hqr.out; omega⟩
 have R6 : Keep (Blk w6 r 38 (bytesA 32 fun _ => 0)) := ⟨G6.out.blk R5.out Hnr.out.1⟩
 have Q6 : Keep (Blk w6 q 38 (bytesA 32 (shaP l))) := ⟨G6.out.blk Q5.out Hnr.out.2⟩
 have Y6 : Keep (RowAt w6 (.slice ba l.length bc) l) := ⟨(by
  by_cases hl : l = []
  ·have h := Y5.out
   subst hl
   rcases h with ⟨e, h⟩ | ⟨a, c, e, h⟩ | ⟨b, off, cap, e, h1, h2⟩
   ·exact .inl ⟨e, h⟩
   ·exact .inr (.inl ⟨a, c, e, h⟩)
   ·exact .inr (.inr ⟨b, off, cap, e, h1, fun i hi => by simp at hi⟩)
  ·exact Y5.out.grown G6.out fun k hk _ e => HRn.out hl k hk (HN.out k e).1)⟩
 have GW6 : Keep (Grown w w6 U) := ⟨(Grown.below B5.out).next G6.out fun k _ e => (HN.out k e).1⟩
 have S56 : Keep (w.heap.size ≤ w5.heap.size ∧ w5.heap.size ≤ w6.heap.size) := ⟨B5.out.size, G6.out.size⟩
 clear A5 R5 Q5 Y5 B5 G6
 refine ⟨_, rfl, ?_⟩
 simp only [Act.put, pqA, pqB, pqC]
 refine WL.callF (by kernel_rfl) 19 _ _ rfl Tryd.in19 #[ptr s, .int .i64 x] (by simp [Act.eval]) ?_
 refine (btold_any s g m vl false x w6 A6.out.bs).mono ?_
 rintro e w7 ⟨rfl, ⟨de7, h1, h2⟩, h3⟩
 refine ⟨_, rfl, ?_⟩
 have C7 := Keep.mk h1
 have E7 := Keep.mk h2
 have G7 := Keep.mk h3
 clear h1 h2 h3
 have Hsx : Keep (s ≠ r ∧ s ≠ q ∧ ¬ N s) := ⟨fun e => absurd (A6.out.bs.typ.one (e ▸ R6.out.typ)) (by decide), fun e => absurd (A6.out.bs.typ.one (e ▸ Q6.out.typ)) (by decide), fun e => (HN.out s e).2 (.inl rfl)⟩
 have R7 : Keep (Blk w7 r 38 (bytesA 32 fun _ => 0)) := ⟨G7.out.blk R6.out fun e => Hsx.out.1 e.symm⟩
 have Q7 : Keep (Blk w7 q 38 (bytesA 32 (shaP l))) := ⟨G7.out.blk Q6.out fun e => Hsx.out.2.1 e.symm⟩
 have hs6 : ¬ JN2 N w5.heap.size w6.heap.size s := fun e => by
  rcases e.1 with h | h
  ·exact Hsx.out.2.2 h
  ·have h2 := HUl.out s (HS.out s (.inl rfl)); have := S56.out; omega
 have J7 : Keep (JDN w7 g d p D6 V6 la6 de6 (JN2 N w5.heap.size w6.heap.size)) := ⟨J6.out.grown G7.out (fun e => Hd.out (e ▸ HS.out s (.inl rfl))) fun k hk e => hs6 (e ▸ hk)⟩
 have GW7 : Keep (Grown w w7 U) := ⟨GW6.out.next G7.out fun k _ e => e ▸ HS.out s (.inl rfl)⟩
 have hms : m ≠ s := fun e => A6.out.ix.ne A6.out.bs.typ e.symm
 have hvs : ∀ k, vl.ownBlock = some k → k ≠ s := fun k hk e => by subst e; exact absurd ((A6.out.ol.typ hk).one A6.out.bs.typ) (by decide)
 have A7 : Keep (x ≠ 7 → StoAt w7 s g m vl L false) := ⟨fun hx => ⟨by rw [← E7.out hx]; exact C7.out, A6.out.ix.grown G7.out hms, A6.out.ol.grown G7.out hvs, fun y hy => ⟨(A6.out.rows y hy).1.grown G7.out fun k hk _ => (A6.out.ap y hy k hk).1, (A6.out.rows y hy).2⟩, A6.out.ap⟩⟩
 have Y7 : Keep (RowAt w7 (.slice ba l.length bc) l) := ⟨(by
  by_cases hl : l = []
  ·have h := Y6.out
   subst hl
   rcases h with ⟨e, h⟩ | ⟨a, c, e, h⟩ | ⟨b, off, cap, e, h1, h2⟩
   ·exact .inl ⟨e, h⟩
   ·exact .inr (.inl ⟨a, c, e, h⟩)
   ·exact .inr (.inr ⟨b, off, cap, e, h1, fun i hi => by simp at hi⟩)
  ·exact Y6.out.grown G7.out fun k hk _ e => HRn.out hl k hk (e ▸ HS.out s (.inl rfl)))⟩
 have Hs67 : Keep (w6.heap.size ≤ w7.heap.size) := ⟨G7.out.size⟩
 have HN7 : Keep (∀ k, JN2 N w5.heap.size w6.heap.size k → (U k ∨ w.heap.size ≤ k) ∧ k < w7.heap.size ∧ ¬ StS s m vl L k) := ⟨fun k hk => by
  have h1 := S56.out
  have h2 := G7.out.size
  refine ⟨?_, by have := hk.2; omega, fun e => ?_⟩
  ·rcases hk.1 with h | h
   ·exact .inl (HN.out k h).1
   ·exact .inr (by omega)
  ·rcases hk.1 with h | h
   ·exact (HN.out k h).2 e
   ·have := HUl.out k (HS.out k e); omega⟩
 clear hms hvs hs6 A6 R6 Q6 Y6 J6 GW6 G7 C7 E7
 simp only [Act.put, pqA, pqB, pqC]
 refine VlS (.int .i64 x) ?_
 refine WL.nil (hK8 _ _ ?_)
 refine wp_seq_k fun K9 hK9 => ?_
 rcases Z6.out with ⟨rfl, rfl, hps, hpay, hx⟩ | ⟨rfl, hcr⟩ | ⟨hxx, rfl, rfl, hx⟩
 skip
 ·have HP6 := Keep.mk hps
  have HX6 := Keep.mk hx
  have HPk := Keep.mk hpay
  clear hps hx hpay Z6
  refine rgn ?_
  refine VlS (.int .i64 0) ?_
  refine VlS (.bool false) ?_
  refine WL.nil (hK9 _ _ ?_)
  refine wp_cond_false rfl ?_
  refine wp_skip ?_
  refine hK7 _ _ ?_
  refine wp_seq_k fun K10 hK10 => ?_
  have hpay := HPk.out
  have hlne : l ≠ [] := fun e => by have := hpay.1; rw [e] at this; simp at this
  have HPay : Keep (PayOk l ∧ l ≠ []) := ⟨hpay, hlne⟩
  obtain ⟨bb, bo, bcap, hbv⟩ : ∃ bb bo bcap, (.slice ba l.length bc : Value) = .slice (some ⟨bb, bo, none⟩) l.length bcap := by
   rcases Y7.out with ⟨_, e⟩ | ⟨_, _, _, e⟩ | ⟨b, off, cap, e, _⟩
   ·exact absurd e hlne
   ·exact absurd e hlne
   ·exact ⟨b, off, cap, e⟩
  injection hbv with hb1 _ hb2
  subst hb1 hb2
  have A7o := Keep.mk (A7.out (by decide))
  have HS0 : Keep ((w7.drew).rangeAt q 0 (bytesA 32 (shaP l)).toList) := ⟨blk_range Q7.out.drew⟩
  clear A7 hpay hlne
  refine wp_region_held_drew (S := fun wx => wx.rangeAt q 0 (bytesA 32 (shaP l)).toList) (by kernel_rfl) (HS0.out) (fun hHeld => ?_)
  refine tkS (i := 0) (oi := ⟨some 31, Op.move (Operand.tmp 0), 30, _, _, none⟩) (v := .pointer (some ⟨s, 0, none⟩)) rfl (Or.inl ⟨by rfl, fun w hS => by go_simp⟩) hHeld ?_
  refine tkS (i := 1) (oi := ⟨some 32, Op.load 38 (Operand.tmp 6), 38, _, _, none⟩) (v := .agg (bytesA 32 (shaP l))) rfl (yieldsIf_loadAj (by rfl) 38 (.tmp 6) rfl q 0 rfl (bytesA 32 (shaP l)) _ (fun w hS => hS) Tryd.underlying38 rfl (Tryd.size38B _)) hHeld ?_
  refine tkS (i := 2) (oi := ⟨some 33, Op.move (Operand.tmp 1), 41, _, _, none⟩) (v := .slice (some ⟨bb, bo, none⟩) l.length bc) rfl (Or.inl ⟨by rfl, fun w hS => by go_simp⟩) hHeld ?_
  refine wpAnyH_ready (rs := [3]) (by kernel_rfl) (by simp) ?_
  refine AllReadyH.cons (o := ⟨some 34, Op.call { callee := Callee.value (Operand.func 21), args := #[Operand.tmp 33], argTypes := #[41] }, 41, _, _, none⟩) rfl (fun K hK => ?_) AllReadyH.nil
  rw [if_pos (by rfl)]
  refine wp_callF 21 _ _ rfl Tryd.in21 #[.slice (some ⟨bb, bo, none⟩) l.length bc] (by simp [Act.eval]) (fun vz wz => Own wz vz l ∧ (∀ k, vz.ownBlock = some k → w7.heap.size ≤ k) ∧ Below w7.heap.size w7 wz) ?_ ?_
  ·refine (clone_row bb bo bc l w7.drew (Y7.out.below (Below.refl _ _).drew) (by have := HPay.out.1.1; omega) (by have := HPay.out.1.2; omega)).mono ?_
   rintro e wz ⟨v', rfl, h1, h2, h3⟩
   exact ⟨_, rfl, h1, h2, (Below.refl w7.heap.size w7).drew.trans h3⟩
  rintro vz w8 ⟨h1, h2, h3⟩
  obtain ⟨ca, cc, rfl⟩ := row_form h1.row
  have O8 := Keep.mk h1
  have N8 := Keep.mk h2
  have B8 := Keep.mk h3
  clear h1 h2 h3
  have Q8 := Keep.mk (Q7.out.below B8.out Q7.out.lt)
  refine hK _ _ (blk_range Q8.out) fun hH8 => ?_
  clear hK
  simp only [Act.put, pqA, pqB, pqC]
  refine wpAnyH_ready (rs := [4]) (by kernel_rfl) (by simp) ?_
  refine AllReadyH.cons (o := ⟨some 35, Op.call { callee := Callee.value (Operand.func 17), args := #[Operand.tmp 31, Operand.tmp 32, Operand.tmp 34], argTypes := #[30, 38, 41] }, 0, _, _, none⟩) rfl (fun K hK => ?_) AllReadyH.nil
  rw [if_pos (by rfl)]
  obtain ⟨va, vc, hvl⟩ := A7o.out.ol.sl
  obtain ⟨n, hn⟩ : ∃ z, Keep (z = L.length) := ⟨_, ⟨rfl⟩⟩
  rw [← hn.out] at hvl
  subst hvl
  refine wp_callF 17 _ _ rfl Tryd.in17 #[ptr s, .agg (bytesA 32 (shaP l)), .slice ca l.length cc] (by simp [Act.eval]) (fun vz wz => vz = .tuple #[] ∧ ∃ vl', StoAt wz s g m vl' (L ++ [(l, .slice ca l.length cc)]) false ∧ (Grown w8 wz fun k => k = s ∨ k = m ∨ (Value.slice va n vc).ownBlock = some k) ∧ ∀ k, vl'.ownBlock = some k → (Value.slice va n vc).ownBlock = some k ∨ w8.heap.size ≤ k) ?_ ?_
  ·refine (add_any s g m n vc l.length cc va ca L false l w8 (A7o.out.below B8.out) O8.out.row (fun k hk => ?_) HPay.out.2 (by rw [HLs.out]; exact HK.out) hn.out (by have h := HFew.out; rw [← HLs.out, List.length_map] at h; have := hn.out; omega)).mono ?_
   ·have h1 := N8.out k hk
    refine ⟨fun e => ?_, fun e => ?_, fun e => ?_⟩
    ·have := A7o.out.lt (.inl e); omega
    ·have := A7o.out.lt (.inr (.inl e)); omega
    ·have := A7o.out.lt (.inr (.inr (.inl e))); omega
   ·rintro e wz ⟨rfl, vl', h1, h2, h3⟩
    exact ⟨_, rfl, rfl, vl', h1, h2, h3⟩
  rintro vz w9 ⟨rfl, vl9, h1, h2, h3⟩
  have A9 := Keep.mk h1
  have G9 := Keep.mk h2
  have V9 := Keep.mk h3
  clear h1 h2 h3
  have H9s : Keep (∀ k, (k = s ∨ k = m ∨ (Value.slice va n vc).ownBlock = some k) → StS s m (.slice va n vc) L k) := ⟨fun k hk => by rcases hk with h | h | h; exact .inl h; exact .inr (.inl h); exact .inr (.inr (.inl h))⟩
  have H9u : Keep (∀ k, (k = s ∨ k = m ∨ (Value.slice va n vc).ownBlock = some k) → U k) := ⟨fun k hk => HS.out k (H9s.out k hk)⟩
  have hqn : ∀ k, w.heap.size ≤ k → ¬ (k = s ∨ k = m ∨ (Value.slice va n vc).ownBlock = some k) := fun k h1 h2 => by have := HUl.out k (H9u.out k h2); omega
  have Q9 : Keep (Blk w9 q 38 (bytesA 32 (shaP l))) := ⟨G9.out.blk Q8.out (hqn q Hqr.out.2.1)⟩
  have R9 : Keep (Blk w9 r 38 (bytesA 32 fun _ => 0)) := ⟨G9.out.blk (R7.out.below B8.out R7.out.lt) (hqn r Hqr.out.2.2)⟩
  have J9 : Keep (JDN w9 g d p D6 V6 la6 false (JN2 N w5.heap.size w6.heap.size)) := ⟨(J7.out.grown (Grown.below (S := fun _ => False) B8.out) (fun h => h) fun _ _ h => h).grown G9.out (fun e => Hd.out (H9u.out d e)) fun k hk e => (HN7.out k hk).2.2 (H9s.out k e)⟩
  have GW9 : Keep (Grown w w9 U) := ⟨(GW7.out.trans (Grown.below B8.out)).next G9.out fun k _ e => H9u.out k e⟩
  have S79 : Keep (w7.heap.size ≤ w8.heap.size ∧ w8.heap.size ≤ w9.heap.size) := ⟨B8.out.size, G9.out.size⟩
  clear hqn
  refine hK _ _ (blk_range Q9.out) fun hH9 => ?_
  clear hK
  simp only [Act.put, pqA, pqB, pqC]
  refine wpAnyH_done (by kernel_rfl) ?_ _
  refine hK10 _ _ ?_
  refine wp_seq_k fun K11 hK11 => rgn ?_
  refine WL.row (by kernel_rfl) 38 (.tmp 6) rfl q rfl 38 (bytesA 32 (shaP l)) _ Q9.out Tryd.underlying38 rfl (Tryd.size38B _) ?_
  simp only [Act.put, pqA, pqB, pqC]
  refine WL.storeR (by kernel_rfl) 38 (.tmp 4) (.tmp 36) rfl r (bytesA 32 (shaP l)) rfl rfl 38 (bytesA 32 fun _ => 0) R9.out (Tryd.size38B _) (bytesA_sizes _ _ _) (bytesA_one _ _) ?_
  have R10 := Keep.mk (R9.out.setRow (bytesA 32 (shaP l)))
  have G10 : Keep (Grown w9 (w9.setRow r (bytesA 32 (shaP l))) fun k => k = r) := ⟨Grown.setRow w9 r _ fun _ => rfl⟩
  generalize w9.setRow r (bytesA 32 (shaP l)) = w10 at *
  have GW10 : Keep (Grown w w10 U) := ⟨GW9.out.next G10.out fun k hk e => absurd hk (by have := Hqr.out; omega)⟩
  simp only [Act.put]
  refine VlS (.int .i64 0) ?_
  refine WL.nil (hK11 _ _ ?_)
  refine wp_ret ?_
  try simp only [Exit.inBlock, Exit.then]
  refine bodyPost_ret (v := .tuple #[.agg (bytesA 32 (shaP l)), .int .i64 0]) (results_cell_row2 Tryd.results9 _ _ r 38 _ (0, 0) _ _ rfl rfl R10.out Tryd.underlying38 rfl (Tryd.size38B _)) rfl ?_
  have hs10 := G10.out.size
  have hrd : d ≠ r := fun e => by have := HJ.out.1.lt; have := Hqr.out; omega
  have h79 := S79.out
  have h56 := S56.out
  have hr7 : r < w5.heap.size := Hr5.out
  have hst : ∀ k, StS s m vl9 (L ++ [(l, .slice ca l.length cc)]) k → U k ∨ w7.heap.size ≤ k := fun k hk => by
   rcases hk with h | h | h | ⟨y, hy, h⟩
   ·exact .inl (HS.out k (.inl h))
   ·exact .inl (HS.out k (.inr (.inl h)))
   ·rcases V9.out k h with h | h
    ·exact .inl (HS.out k (.inr (.inr (.inl h))))
    ·exact .inr (by omega)
   ·rcases List.mem_append.1 hy with hy | hy
    ·exact .inl (HS.out k (.inr (.inr (.inr ⟨y, hy, h⟩))))
    ·rw [List.mem_singleton.1 hy] at h
     exact .inr (N8.out k h)
  have h7 := GW7.out.size
  have hw67 := Hs67.out
  refine ⟨_, _, rfl, GW10.out, .inl ⟨by decide, D6, V6, la6, ⟨vl9, L ++ [(l, .slice ca l.length cc)], JN2 N w5.heap.size w6.heap.size, A9.out.grown G10.out (fun k hk e => ?_), by rw [List.map_append, HLs.out, HP6.out]; rfl, J9.out.grown G10.out hrd (fun k hk e => ?_), fun k hk => ⟨⟨(HN7.out k hk).1, by have := (HN7.out k hk).2.1; omega⟩, fun e => ?_⟩, fun k hk => ⟨?_, by have := A9.out.lt hk; omega⟩, by rw [HP6.out]; exact HDs.out.snoc HK.out⟩, HX6.out, by have := X6.out; omega, .inr ⟨rfl, HP6.out, HK.out⟩, .inl rfl⟩⟩
  ·subst e
   rcases hst k hk with h | h
   ·have := HUl.out k h; have := Hqr.out; omega
   ·omega
  ·subst e
   rcases hk.1 with h | h
   ·exact Hnr.out.1 h
   ·omega
  ·rcases hst k e with h | h
   ·rcases e with e | e | e | ⟨y, hy, e⟩
    ·exact (HN7.out k hk).2.2 (.inl e)
    ·exact (HN7.out k hk).2.2 (.inr (.inl e))
    ·rcases V9.out k e with e | e
     ·exact (HN7.out k hk).2.2 (.inr (.inr (.inl e)))
     ·have := (HN7.out k hk).2.1; omega
    ·rcases List.mem_append.1 hy with hy | hy
     ·exact (HN7.out k hk).2.2 (.inr (.inr (.inr ⟨y, hy, e⟩)))
     ·rw [List.mem_singleton.1 hy] at e
      have := N8.out k e; have := (HN7.out k hk).2.1; omega
   ·have := hk.2; omega
  ·rcases hst k hk with h | h
   ·exact .inl h
   ·exact .inr (by omega)
 ·have HC6 := Keep.mk hcr
  clear hcr Z6
  refine rgn ?_
  refine VlS (.int .i64 7) ?_
  refine VlS (.bool true) ?_
  refine WL.nil (hK9 _ _ ?_)
  refine wp_cond_true rfl ?_
  refine wp_seq_k fun K12 hK12 => rgn ?_
  refine WL.bld (by kernel_rfl) 38 _ rfl [] (by simp) _ h_built ?_
  simp only [Act.put, pqA, pqB, pqC]
  refine VlS (.int .i64 7) ?_
  refine WL.storeR (by kernel_rfl) 38 (.tmp 4) (.tmp 29) rfl r (bytesA 32 fun _ => 0) rfl rfl 38 (bytesA 32 fun _ => 0) R7.out (Tryd.size38B _) (bytesA_sizes _ _ _) (bytesA_one _ _) ?_
  have R8 := Keep.mk (R7.out.setRow (bytesA 32 fun _ => 0))
  have G8 : Keep (Grown w7 (w7.setRow r (bytesA 32 fun _ => 0)) fun k => k = r) := ⟨Grown.setRow w7 r _ fun _ => rfl⟩
  generalize w7.setRow r (bytesA 32 fun _ => 0) = w8 at *
  have GW8 : Keep (Grown w w8 U) := ⟨GW7.out.next G8.out fun k hk e => absurd hk (by have := Hqr.out; omega)⟩
  simp only [Act.put]
  refine VlS (.int .i64 7) ?_
  refine WL.nil (hK12 _ _ ?_)
  refine wp_ret ?_
  try simp only [Exit.inBlock, Exit.then]
  refine bodyPost_ret (v := .tuple #[.agg (bytesA 32 (fun _ => 0)), .int .i64 7]) (results_cell_row2 Tryd.results9 _ _ r 38 _ (0, 0) _ _ rfl rfl R8.out Tryd.underlying38 rfl (Tryd.size38B _)) rfl ?_
  have hs8 := G8.out.size
  have hrd : d ≠ r := fun e => by have := HJ.out.1.lt; have := Hqr.out; omega
  have hdk : DskN w7 d p D6 (JN2 N w5.heap.size w6.heap.size) := J7.out.dsk fun k hk => hk
  have hdk8 : DskN w8 d p D6 (JN2 N w5.heap.size w6.heap.size) := hdk.grown G8.out hrd fun k _ hk e => by
   subst e
   rcases hk.1 with h | h
   ·exact Hnr.out.1 h
   ·have h3 := Hr5.out; omega
  refine ⟨_, _, rfl, GW8.out, .inr ⟨rfl, HK.out, D6, ?_, HC6.out, by have := X6.out; omega⟩⟩
  obtain ⟨a1, vf, cs, a2, a3⟩ := hdk8
  exact ⟨a1, vf, cs, a2, fun k hk => ⟨(HN7.out k (a3 k hk)).1, by have := (HN7.out k (a3 k hk)).2.1; omega⟩⟩
 ·have HX6 := Keep.mk hx
  have Hxx : Keep (x ≠ 7 ∧ ¬ x = 0 ∧ EP x) := ⟨(HEP.out x hxx).2, (HEP.out x hxx).1, hxx⟩
  clear hx hxx Z6
  have hx0 := Hxx.out.2.1
  refine rgn ?_
  refine VlS (.int .i64 x) ?_
  refine VlS (.bool true) ?_
  refine WL.nil (hK9 _ _ ?_)
  refine wp_cond_true rfl ?_
  refine wp_seq_k fun K13 hK13 => rgn ?_
  refine WL.bld (by kernel_rfl) 38 _ rfl [] (by simp) _ h_built ?_
  simp only [Act.put, pqA, pqB, pqC]
  refine VlS (.int .i64 x) ?_
  refine WL.storeR (by kernel_rfl) 38 (.tmp 4) (.tmp 29) rfl r (bytesA 32 fun _ => 0) rfl rfl 38 (bytesA 32 fun _ => 0) R7.out (Tryd.size38B _) (bytesA_sizes _ _ _) (bytesA_one _ _) ?_
  have R8 := Keep.mk (R7.out.setRow (bytesA 32 fun _ => 0))
  have G8 : Keep (Grown w7 (w7.setRow r (bytesA 32 fun _ => 0)) fun k => k = r) := ⟨Grown.setRow w7 r _ fun _ => rfl⟩
  generalize w7.setRow r (bytesA 32 fun _ => 0) = w8 at *
  have GW8 : Keep (Grown w w8 U) := ⟨GW7.out.next G8.out fun k hk e => absurd hk (by have := Hqr.out; omega)⟩
  simp only [Act.put]
  refine VlS (.int .i64 x) ?_
  refine WL.nil (hK13 _ _ ?_)
  refine wp_ret ?_
  try simp only [Exit.inBlock, Exit.then]
  refine bodyPost_ret (v := .tuple #[.agg (bytesA 32 (fun _ => 0)), .int .i64 x]) (results_cell_row2 Tryd.results9 _ _ r 38 _ (0, 0) _ _ rfl rfl R8.out Tryd.underlying38 rfl (Tryd.size38B _)) rfl ?_
  have hs8 := G8.out.size
  have hrd : d ≠ r := fun e => by have := HJ.out.1.lt; have := Hqr.out; omega
  have hru : ¬ U r := fun e => by have := HUl.out r e; have := Hqr.out; omega
  refine ⟨_, _, rfl, GW8.out, .inl ⟨Hxx.out.1, D6, V6, la6, ⟨vl, L, _, (A7.out Hxx.out.1).grown G8.out (fun k hk e => hru (e ▸ HS.out k hk)), HLs.out, J7.out.grown G8.out hrd (fun k hk e => ?_), fun k hk => ⟨⟨(HN7.out k hk).1, by have := (HN7.out k hk).2.1; omega⟩, (HN7.out k hk).2.2⟩, fun k hk => ⟨.inl (HS.out k hk), by have := HUl.out k (HS.out k hk); have := GW8.out.size; omega⟩, HDs.out⟩, HX6.out, by have := X6.out; omega, .inl ⟨rfl, by simp [HK.out, hx0]⟩, .inr Hxx.out.2.2⟩⟩
  subst e
  rcases hk.1 with h | h
  ·exact Hnr.out.1 h
  ·have h3 := Hr5.out; omega

theorem put_any (s g m d p : Nat) (v : Value) (l : List Int) (D : DV) (V : JV) (la : Bool) (sure : Nat) (U : Nat → Prop) (w : World) (hT : Tab w) (hSD : SD w s g m d p D V la U) (hUl : ∀ k, U k → k < w.heap.size) (h0 : ¬ U 0) (hd : ¬ U d) (hX : JX D V la sure) (hAc : D.acts ≤ 4611686018427380000) (hR : RowAt w v l) (hRn : l ≠ [] → ∀ k, v.ownBlock = some k → ¬ U k) (hBy : Byts l) (hL : l.length ≤ 140737488355328) :
  Calls Tryd.prog 9 #[ptr s, v] w (PutG (fun D' V' la' => JX D' V' la' sure) (fun D' => CR D' (V.ps ++ [l]) sure) (fun x => x = 1 ∨ x = 4 ∨ x = 8) D V l s g m d p U w) := by
 by_cases h : hasK V.ps l = true
 ·exact put_known _ _ _ s g m d p v l D V la U w hT hSD hUl h0 hd (by have := hX.ji.few.1; omega) hR hRn hL hX h
 refine put_new _ _ _ s g m d p v l D V la U w hT hSD hUl h0 hd (by have := hX.ji.few.1; omega) hR hRn hL (fun x hx => by omega) (fun N w5 a1 a2 a3 a4 a5 a6 a7 => ?_) (Bool.eq_false_iff.2 h)
 refine (japp_any g d p v l D V la sure N w5 a1 a2 a3 a4 hX hAc a6 a7 hBy a5).mono ?_
 rintro e w6 ⟨ee, D', V', la', de', rfl, h1, h2, h3, h4⟩
 refine ⟨ee, D', V', la', de', rfl, h1, h2, h3, ?_⟩
 rcases h4 with ⟨b1, b2, b3, b4⟩ | h4 | h4
 ·exact .inl ⟨b1, b2, b3, openV_pay (Fk D'.fs) l (by rw [b4.ji.rd, b3]; simp), b4⟩
 ·exact .inr (.inl h4)
 ·exact .inr (.inr h4)
def noDef (L : List Oper) : Bool := L.all fun o => match o.op with
 | .defer _ => false
 | _ => true
theorem noDef_mem {L : List Oper} (h : noDef L = true) : ∀ o ∈ L, ∀ c, o.op ≠ .defer c := fun o ho c e => by
 have := List.all_eq_true.1 h o ho
 rw [e] at this
 cases this
theorem op_in {F : Fence} (hF : F = Fence.wide ∨ ∃ l, F = Fence.wide.inRound l) {n : Nat} {P : Program} {o : Oper} {a : Act} {w : World} {K K' : Act → World → Prop} {Q : Exit → Act → World → Prop} (hd : ∀ c, o.op ≠ .defer c) (hK : ∀ a w, K a w → K' a w) (h : o.wp P a w K Q) : o.wpIn F n P a w K' Q := by
 have hs : Oper.semAt F.round a.eval o = execOp a.eval o := by
  rcases hF with rfl | ⟨l, rfl⟩
  ·rfl
  ·exact Oper.semAt_some l a.eval o hd
 have hfn : ∀ f, F.fn f := by rcases hF with rfl | ⟨l, rfl⟩ <;> exact fun _ => trivial
 have hdp : ¬ (F.depth.isSome = true) := by rcases hF with rfl | ⟨l, rfl⟩ <;> (intro h; cases h)
 have hc : ∀ {f : FuncId} {args : Array Value} {w : World} {R : Ending → World → Prop}, Calls P f args w R → CallsIn F (n - 1) P f args w R := fun h => by
  rcases hF with rfl | ⟨l, rfl⟩
  ·exact callsIn_wide.2 h
  ·exact CallsIn.inRound l (callsIn_wide.2 h)
 have hr : ∀ {row : String} {args : Array Value} {w : World} {R : Value → World → Prop}, Rows P row args w R → RowsIn F (n - 1) P row args w R := fun h c cs _ => by
  obtain ⟨v, w', r, s⟩ := h c cs
  refine ⟨v, w', r, ?_⟩
  rcases hF with rfl | ⟨l, rfl⟩
  ·exact stepsIn_wide.2 s
  ·exact (stepsIn_wide (P := P)).2 s
 refine ⟨fun f _ => hfn f, ?_⟩
 rw [hs]
 unfold Oper.wp at h
 generalize (execOp a.eval o).run P w = r at h
 cases r
 case ok nx w' =>
  cases nx
  case value v => exact hK _ _ h
  case skip => exact hK _ _ h
  case defer d => exact hK _ _ h
  case enter f args =>
   refine ⟨fun h => absurd h hdp, hc ((show Calls P f args w' _ from h).mono fun e w'' => ?_)⟩
   cases e
   case returned v => exact fun h => hK _ _ h
   case panicked c => exact fun h => h
   case outgrown => exact fun h => h
  case row rw' args => exact ⟨fun h => absurd h hdp, hr ((show Rows P rw' args w' _ from h).mono fun v w'' h => hK _ _ h)⟩
  all_goals exact False.elim h
 case halt hh w' =>
  cases hh
  case panic v => exact h
  all_goals exact False.elim h
 all_goals exact False.elim h
theorem list_in {F : Fence} (hF : F = Fence.wide ∨ ∃ l, F = Fence.wide.inRound l) {n : Nat} {P : Program} {ops : Array Oper} {Q : Exit → Act → World → Prop} (hQ : ¬ LetsOut Q) : ∀ (L : List Oper) (_ : ∀ o ∈ L, ∀ c, o.op ≠ .defer c) (a : Act) (w : World), wpList P ops Q L a w → wpListIn F n P ops Q L a w
 | [], _, _, _, h => h
 | o :: rest, hd, a, w, h => by
  unfold wpList at h
  unfold wpListIn
  by_cases hw : Region.wanted o (yielded ops a.tmps) = true
  ·rw [if_pos hw] at h ⊢
   rcases h with h | ⟨_, h⟩
   ·exact op_in hF (hd o List.mem_cons_self) (fun a w h => list_in hF hQ rest (fun o ho => hd o (List.mem_cons_of_mem _ ho)) a w h) h
   ·exact absurd h hQ
  ·rw [if_neg hw] at h ⊢
   exact ⟨fun f _ => (by rcases hF with rfl | ⟨l, rfl⟩ <;> trivial), list_in hF hQ rest (fun o ho => hd o (List.mem_cons_of_mem _ ho)) _ w h⟩
theorem region_in {l n : Nat} {P : Program} {id : Nat} {ops : Array Oper} {Q : Exit → Act → World → Prop} {a : Act} {w : World} (hd : noDef ops.toList = true) (hQ : ¬ LetsOut Q) (h : wpList P ops Q ops.toList a w) : (Code.region id ops false).wpIn (Fence.wide.inRound l) n P Q a w :=
 wpIn_region_list (list_in (.inr ⟨l, rfl⟩) hQ _ (noDef_mem hd) a w h)
theorem any_in {F : Fence} (hF : F = Fence.wide ∨ ∃ l, F = Fence.wide.inRound l) {n : Nat} {P : Program} {md : Region.Mode} {ops : Array Oper} {Q : Exit → Act → World → Prop} {S : World → Prop} (hQ : ¬ LetsOut Q) (hd : noDef ops.toList = true) : ∀ (fuel : Nat) (listed : Array Bool) (a : Act) (w : World), wpAnyH P md ops Q S fuel listed a w → wpAnyIn F n P md ops Q fuel listed a w
 | 0, _, _, _, h => h
 | fuel + 1, listed, a, w, h => by
  refine ⟨h.1, fun i hi => ?_⟩
  have h2 := h.2 i hi
  unfold wpOp at h2
  unfold wpOpIn
  cases ho : ops[i]? with
  | none => rw [ho] at h2; exact any_in hF hQ hd fuel _ a w h2.2
  | some o =>
   rw [ho] at h2
   simp only at h2 ⊢
   have hm : o ∈ ops.toList := by
    rw [← Array.getElem?_toList] at ho
    exact List.mem_of_getElem? ho
   by_cases hw : Region.wanted o (yielded ops a.tmps) = true
   ·rw [if_pos hw] at h2 ⊢
    rcases h2 with h2 | ⟨_, h2⟩
    ·exact op_in hF (noDef_mem hd o hm) (fun a w h => any_in hF hQ hd fuel _ a w h.2) h2
    ·exact absurd h2 hQ
   ·rw [if_neg hw] at h2 ⊢
    exact ⟨fun f _ => (by rcases hF with rfl | ⟨l, rfl⟩ <;> trivial), any_in hF hQ hd fuel _ _ w h2.2⟩
theorem region_in_held {l n : Nat} {P : Program} {id : Nat} {ops : Array Oper} {Q : Exit → Act → World → Prop} {a : Act} {w : World} {S : World → Prop} (hm : P.follows .mixedOrders = true) (hd : noDef ops.toList = true) (hQ : ¬ LetsOut Q) (hS : S w.drew) (h : S w.drew → wpAnyH P .any ops Q S ops.size (Array.replicate ops.size false) a w.drew) : (Code.region id ops true).wpIn (Fence.wide.inRound l) n P Q a w :=
 wpIn_region_any hm (any_in (.inr ⟨l, rfl⟩) hQ hd _ _ _ _ (h hS))

def Told {α : Type} (n : Nat) (P : Program) (g : Nat) (lb : Array Value) (encs : α → Array Value) (Fx : List α → α → World → Prop) (Kp : World → World → Prop) (S : List α → Prop) (N : Nat) (w : World) : Prop :=
 ∀ (l : Nat) (J : List α → World → Prop) (W : World), Below w.heap.size w W → OwnFrom W.heap.size J →
  (∀ pre x W1, J pre W1 → Fx pre x W1 → pre.length < N → YieldAt Fence.wide (n - 1) P l (encs x) W1 fun e W' => e = .returned (.bool true) ∧ J (pre ++ [x]) W' ∧ Kp W1 W' ∧ KeepsFrom W.heap.size W1 W') →
  J [] W → CallsIn Fence.wide n P g (#[.func (.yield l) #[] #[]] ++ lb) W fun e W' => (∃ v, e = .returned v) ∧ ∃ xs, S xs ∧ J xs W'
theorem keepsFrom_mono {B B' : Nat} {W W' : World} (h : KeepsFrom B W W') (hB : B ≤ B') : KeepsFrom B' W W' := ⟨h.size, fun k o hk h1 h2 => h.same k o (Nat.le_trans hB hk) h1 h2⟩
structure Rec2 (B : Nat) (r : Loop) (W : World) : Prop where
 d : W.heap[B]? = some (.deferred (some []))
 l : W.heap[B + 1]? = some (.loop r)
theorem Rec2.lt {B : Nat} {r : Loop} {W : World} (h : Rec2 B r W) : B + 1 < W.heap.size := (Array.getElem?_eq_some_iff.1 h.l).1
theorem Rec2.put {B : Nat} {r r' : Loop} {W : World} (h : Rec2 B r W) : Rec2 B r' (W.putObj (B + 1) (.loop r')) :=
 ⟨(World.putObj_heap_other (by omega)).trans h.d, World.putObj_heap_same h.lt⟩
theorem Rec2.keep {B : Nat} {r : Loop} {W W' : World} (h : Rec2 B r W) (k : KeepsFrom B W W') : Rec2 B r W' :=
 ⟨k.same _ _ (Nat.le_refl _) h.d rfl, k.same _ _ (by omega) h.l rfl⟩
theorem Rec2.grow {B : Nat} {r : Loop} {W W' : World} {row : Option Nat} (h : Rec2 B r W) (hg : W.grownBy W' row) (hr : ∀ k, row = some k → B + 2 ≤ k) : Rec2 B r W' :=
 ⟨(hg.block _ (by have := h.lt; omega) fun e => by have := hr _ e.symm; omega).trans h.d, (hg.block _ h.lt fun e => by have := hr _ e.symm; omega).trans h.l⟩
theorem range_told {α : Type} {n : Nat} {P : Program} {g : Operand} {ps : Array Tmp} {assign body : Code} {Q : Exit → Act → World → Prop} {a : Act} {w : World} (h1 : 1 ≤ n) {gf : Nat} {lb : Array Value}
  (hg : a.eval g = .func (.func gf) #[] lb) (eg : ∀ args w, (callFunc gf args).run P w = .ok (.enter gf args) w)
  {encs : α → Array Value} {Fx : List α → α → World → Prop} {Kp : World → World → Prop} {S : List α → Prop} {N : Nat} {w0 : World} (hseq : Told (n - 1) P gf lb encs Fx Kp S N w0)
  (hKt : ∀ A B C : World, Kp A B → Kp B C → Kp A C) (hKb : ∀ (W : World) (r r' : Loop), Rec2 w.heap.size r W → Kp W (W.putObj (w.heap.size + 1) (.loop r')))
  (hb0 : Below w0.heap.size w0 w) (hps : ∀ x, (encs x).size = ps.size)
  (I : List α → World → Prop) (hI : OwnFrom w.heap.size I) (h0 : I [] w) (Ax : List α → α → Act → World → Prop) (hAx : ∀ pre x a', OwnFrom w.heap.size fun (_ : Unit) W => Ax pre x a' W)
  (hassign : ∀ (l : Nat) (pre : List α) (x : α) (W : World) (K : Act → World → Prop), I pre W → Fx pre x W → pre.length < N → (∀ a' W', KeepsFrom w.heap.size W W' → Kp W W' → Ax pre x a' W' → K a' W') →
   assign.wpIn (Fence.wide.inRound l) (n - 1 - 1) P (Exit.then K fun _ _ _ => False) { tmps := (ps.zip (encs x)).foldl (fun t (p, v) => t.setIfInBounds p v) a.tmps, defers := [] } W)
  (hbody : ∀ (l : Nat) (pre : List α) (x : α) (a' : Act) (W : World), w.heap.size ≤ l → (∃ r, W.heap[l]? = some (.loop r)) → Ax pre x a' W →
   body.wpIn (Fence.wide.inRound l) (n - 1 - 1) P (fun e _ W' => e = .normal ∧ KeepsFrom w.heap.size W W' ∧ Kp W W' ∧ I (pre ++ [x]) W') a' W)
  (hdone : ∀ (D : Nat) (xs : List α) (W : World), w.heap.size ≤ D → S xs → I xs W → W.heap[D]? = some (.deferred (some [])) → Q .normal { a with defers := { target := .collected D, args := #[] } :: a.defers } W) :
  (Code.rangeFunc g ps assign body).wpIn Fence.wide n P Q a w := by
 refine wpIn_rangeFunc fun fn hfn => ?_
 let R : Bool → Loop := fun b => { state := if b then .busy else .ready, pending := none, fn, tmps := a.tmps, params := ps, assign, body, defers := w.heap.size }
 let W1 := (w.alloc (.deferred (some []))).alloc (.loop (R false))
 have hs1 : W1.heap.size = w.heap.size + 2 := by simp [W1]
 have r1 : Rec2 w.heap.size (R false) W1 := by
  refine ⟨(Below.heap_alloc _ _ _ (by simp)).trans (World.alloc_heap_new w _), ?_⟩
  have h := World.alloc_heap_new (w.alloc (.deferred (some []))) (.loop (R false))
  rwa [World.size_alloc] at h
 refine ⟨w.heap.size + 1, [{ target := .collected w.heap.size, args := #[] }], W1, { target := .fn (.func gf) lb, args := #[.func (.yield (w.heap.size + 1)) #[] #[]] }, W1, gf, #[.func (.yield (w.heap.size + 1)) #[] #[]] ++ lb, W1, run_enterLoop_outer _ _ _ _ _, ?_, fun _ _ => trivial, ?_, fun _ => h1, ?_⟩
 ·simp only [resolve, hg]; simp [go_sem]
 ·simp [invoke, go_sem, eg]
 refine (hseq (w.heap.size + 1) (fun pre W => I pre W ∧ Rec2 w.heap.size (R false) W) W1 (hb0.trans ((((Below.refl _ w).alloc (Nat.le_refl _) _).alloc (by simp) _).mono hb0.size))
  (fun s A B row h hgr hr => ⟨hI s A B row h.1 hgr fun k e => ⟨by have := (hr k e).1; omega, (hr k e).2⟩, h.2.grow hgr fun k e => by have := (hr k e).1; omega⟩) ?_ ⟨hI.alloc _ (hI.alloc _ h0), r1⟩).mono ?_
 ·rintro pre x W ⟨hi, hr⟩ hF hlen
  refine ⟨fn, _, assign, body, run_yield (P := P) (args := encs x) hr.l (hps x), roundIn_of_wpIn hfn (hassign _ pre x W _ hi hF hlen fun a' Wa ka kp hax => ?_)⟩
  have hra := hr.keep ka
  refine ⟨_, run_beginRound hra.l rfl, ?_⟩
  have hrb : Rec2 w.heap.size (R true) (Wa.putObj (w.heap.size + 1) (.loop (R true))) := hra.put
  refine wpIn_mono (hbody _ pre x a' _ (by omega) ⟨_, hrb.l⟩ ((hAx pre x a').putObj (s := ()) _ hax (by omega) hra.l rfl)) ?_
  rintro e a3 W3 ⟨rfl, k3, kp3, i3⟩
  have hr3 := hrb.keep k3
  refine ⟨_, _, run_endRound (P := P) none hr3.l, rfl, ⟨hI.putObj _ i3 (by omega) hr3.l rfl, hr3.put⟩, hKt _ _ _ kp (hKt _ _ _ (hKb _ _ _ hra) (hKt _ _ _ kp3 (hKb _ _ _ hr3))), ?_⟩
  have kp' : ∀ (X : World) (o : Obj), KeepsFrom W1.heap.size X (X.putObj (w.heap.size + 1) o) := fun X o => KeepsFrom.of_grownBy (grownBy_putObj' X _ o) fun j e => by cases e; omega
  exact ((keepsFrom_mono ka (by omega)).trans (kp' _ _)).trans ((keepsFrom_mono k3 (by omega)).trans (kp' _ _))
 ·rintro e W2 ⟨⟨v, rfl⟩, xs, hS, hi, hr⟩
  exact ⟨none, _, run_endLoop (P := P) hr.l (by simp [R]), hdone _ xs _ (Nat.le_refl _) hS (hI.putObj _ hi (by omega) hr.l rfl) ((World.putObj_heap_other (by omega)).trans hr.d)⟩
theorem yield_in {n : Nat} {P : Program} {o : Oper} {a : Act} {w : World} {K : Act → World → Prop} {Q : Exit → Act → World → Prop} (l : Nat) (x : Operand) (args : Array Operand) (ts : Array TypeId) (ho : o.op = .call { callee := .value x, args := args, argTypes := ts }) (hx : a.eval x = .func (.yield l) #[] #[]) (vs : Array Value) (hvs : args.map a.eval = vs)
  {R : Ending → World → Prop} (hy : YieldAt Fence.wide (n - 1) P l vs w R) (h : ∀ e w', R e w' → ∃ v, e = .returned v ∧ K (a.put o.dst v) w') : o.wpIn Fence.wide n P a w K Q := by
 obtain ⟨fn, tmps, asg, bd, hr, hR⟩ := hy
 refine ⟨fun _ _ => trivial, ?_⟩
 have hrun : (execOp a.eval o).run P w = .ok (.round l fn tmps asg bd) w := by
  simp [execOp, ho, resolve, hx, hvs, invoke, Deferred.ofValue, hr]
 show o.uponIn Fence.wide n P a _ Q ((Oper.semAt none a.eval o).run P w)
 rw [Oper.semAt_none, hrun, Oper.uponIn_round]
 refine ⟨fun h => (by cases h), hR.mono fun e w' hq => ?_⟩
 obtain ⟨v, rfl, h2⟩ := h e w' hq
 exact h2
theorem abides_below {β : Type} {B : Nat} {J : β → World → Prop} {s : β} {W W' : World} (hJ : OwnFrom B J) (h : J s W) (hb : Below W.heap.size W W') : J s W' := hJ s W W' none h ⟨hb.os, hb.tape, hb.output, hb.size, fun i hi _ => hb.block i hi⟩ fun _ e => by cases e
theorem keeps_grown {W W' : World} {S : Nat → Prop} (hg : Grown W W' S) (hs : ∀ k, S k → ∃ T cs, Blk W k T cs) (B : Nat) : KeepsFrom B W W' := ⟨hg.size, fun k o _ hk ho => by
 rw [hg.block k (Array.getElem?_eq_some_iff.1 hk).1 fun hS => ?_]
 ·exact hk
 ·obtain ⟨T, cs, hb⟩ := hs k hS
  unfold Blk at hb
  rw [hb] at hk
  cases hk
  cases ho⟩
theorem belowC {B : Nat} {a b c : World} (h : Below B a b) (k : Below b.heap.size b c) (hB : B ≤ b.heap.size) : Below B a c := h.trans (k.mono hB)
theorem Tryd.in24 (w : World) (vs : Array Value) : (callFunc 24 vs).run Tryd.prog w = .ok (.enter 24 vs) w := by kernel_rfl
theorem Tryd.in12 (w : World) (vs : Array Value) : (callFunc 12 vs).run Tryd.prog w = .ok (.enter 12 vs) w := by kernel_rfl
def SyPost (D : DV) (V : JV) (sure s g m d p : Nat) (U : Nat → Prop) (w : World) (e : Ending) (w' : World) : Prop :=
  ∃ ee : Int, e = .returned (.int .i64 ee) ∧ Grown w w' U ∧
    ((ee = 0 ∧ ∃ D' la', SD w' s g m d p D' V la' (JN2 U w.heap.size w'.heap.size) ∧ JX D' V la' V.ps.length ∧ D'.acts ≤ D.acts + 300) ∨
     (ee = 7 ∧ ∃ D', DskN w' d p D' (JN2 U w.heap.size w'.heap.size) ∧ CR D' V.ps sure ∧ D'.acts ≤ D.acts + 300))
set_option maxRecDepth 8000 in
set_option maxHeartbeats 1000000 in
theorem bsync_any (s g m d p : Nat) (D : DV) (V : JV) (la : Bool) (sure : Nat) (U : Nat → Prop) (w : World) (hT : Tab w) (hSD : SD w s g m d p D V la U) (hUl : ∀ k, U k → k < w.heap.size) (h0 : ¬ U 0) (hd : ¬ U d) (hX : JX D V la sure) (hAc : D.acts ≤ 4611686018427380000) : Calls Tryd.prog 10 #[ptr s] w (SyPost D V sure s g m d p U w) := by
 obtain ⟨vl, L, N, hA, hLs, hJ, hN, hS, hDs⟩ := hSD
 have HT := Keep.mk hT
 have HA := Keep.mk hA
 have HLs := Keep.mk hLs
 have HJ := Keep.mk hJ
 have HN := Keep.mk hN
 have HS := Keep.mk hS
 have HDs := Keep.mk hDs
 have HUl := Keep.mk hUl
 have H0 := Keep.mk h0
 have Hd := Keep.mk hd
 have HX := Keep.mk hX
 have HAc := Keep.mk hAc
 clear hT hA hLs hJ hN hS hDs hUl h0 hd hX hAc
 go_enter Tryd.func10, Tryd.ntmps10
 have c0 := HA.out.bs.c 0 (by rfl : (sA g vl m false)[0]? = some (ptr g))
 refine wp_seq_k fun K1 hK1 => rgn ?_
 refine VlS (.int .i64 0) ?_
 refine WL.nil (hK1 _ _ ?_)
 refine wp_seq_k fun K2 hK2 => rgn ?_
 refine VlS (.pointer (some ⟨s, 0, none⟩)) ?_
 refine VlS (.pointer (some ⟨s, 0, none⟩)) ?_
 refine VlS (.pointer (some ⟨s, 0, none⟩)) ?_
 refine VlS (.pointer (some ⟨s, 0, none⟩)) ?_
 refine VlS (.pointer (some ⟨g, 0, none⟩)) ?_
 clear c0
 refine WL.callF (by kernel_rfl) 22 _ _ rfl Tryd.in22 #[ptr g] (by simp [Act.eval]) ?_
 refine (jsync_any g d p D V la sure N w HT.out HJ.out (fun e => H0.out (HN.out 0 e).1) (fun e => Hd.out (HN.out d e).1) HX.out HAc.out).mono ?_
 rintro e w6 ⟨x, D6, la6, de6, rfl, h1, h2, h3, h4⟩
 have J6 := Keep.mk h1
 have G6 := Keep.mk h2
 have X6 := Keep.mk h3
 have Z6 := Keep.mk h4
 clear h1 h2 h3 h4
 have A6 : Keep (StoAt w6 s g m vl L false) := ⟨HA.out.grown G6.out fun k hk e => (HN.out k e).2 hk⟩
 refine ⟨_, rfl, ?_⟩
 simp only [Act.put, pqA, pqB, pqC]
 refine WL.callF (by kernel_rfl) 19 _ _ rfl Tryd.in19 #[ptr s, .int .i64 x] (by simp [Act.eval]) ?_
 refine (btold_any s g m vl false x w6 A6.out.bs).mono ?_
 rintro e w7 ⟨rfl, ⟨de7, h1, h2⟩, h3⟩
 refine ⟨_, rfl, ?_⟩
 have C7 := Keep.mk h1
 have E7 := Keep.mk h2
 have G7 := Keep.mk h3
 clear h1 h2 h3
 have hsn : ¬ N s := fun e => (HN.out s e).2 (.inl rfl)
 have hs6 : ¬ JN2 N w.heap.size w6.heap.size s := fun e => by
  rcases e.1 with h | h
  ·exact hsn h
  ·have h2 := HUl.out s (HS.out s (.inl rfl)); omega
 have J7 : Keep (JDN w7 g d p D6 V la6 de6 (JN2 N w.heap.size w6.heap.size)) := ⟨J6.out.grown G7.out (fun e => Hd.out (e ▸ HS.out s (.inl rfl))) fun k hk e => hs6 (e ▸ hk)⟩
 have GW7 : Keep (Grown w w7 U) := ⟨(G6.out.mono fun k _ e => (HN.out k e).1).next G7.out fun k _ e => e ▸ HS.out s (.inl rfl)⟩
 have hms : m ≠ s := fun e => A6.out.ix.ne A6.out.bs.typ e.symm
 have hvs : ∀ k, vl.ownBlock = some k → k ≠ s := fun k hk e => by subst e; exact absurd ((A6.out.ol.typ hk).one A6.out.bs.typ) (by decide)
 have A7 : Keep (x ≠ 7 → StoAt w7 s g m vl L false) := ⟨fun hx => ⟨by rw [← E7.out hx]; exact C7.out, A6.out.ix.grown G7.out hms, A6.out.ol.grown G7.out hvs, fun y hy => ⟨(A6.out.rows y hy).1.grown G7.out fun k hk _ => (A6.out.ap y hy k hk).1, (A6.out.rows y hy).2⟩, A6.out.ap⟩⟩
 have HN7 : Keep (∀ k, JN2 N w.heap.size w6.heap.size k → (U k ∨ w.heap.size ≤ k) ∧ k < w7.heap.size ∧ ¬ StS s m vl L k) := ⟨fun k hk => by
  have h2 := G7.out.size
  refine ⟨?_, by have := hk.2; omega, fun e => ?_⟩
  ·rcases hk.1 with h | h
   ·exact .inl (HN.out k h).1
   ·exact .inr h
  ·rcases hk.1 with h | h
   ·exact (HN.out k h).2 e
   ·have := HUl.out k (HS.out k e); omega⟩
 simp only [Act.put, pqA, pqB, pqC]
 refine VlS (.int .i64 x) ?_
 refine WL.nil (hK2 _ _ ?_)
 refine wp_ret ?_
 go_ret
 refine ⟨x, rfl, GW7.out, ?_⟩
 rcases Z6.out with ⟨rfl, rfl, hx⟩ | ⟨rfl, hcr⟩
 ·exact .inl ⟨rfl, D6, la6, ⟨vl, L, _, A7.out (by decide), HLs.out, J7.out, fun k hk => ⟨⟨(HN7.out k hk).1, (HN7.out k hk).2.1⟩, (HN7.out k hk).2.2⟩, fun k hk => ⟨.inl (HS.out k hk), by have := HUl.out k (HS.out k hk); have := GW7.out.size; omega⟩, HDs.out⟩, hx, by have := X6.out; omega⟩
 ·exact .inr ⟨rfl, D6, J7.out.dsk fun k hk => ⟨(HN7.out k hk).1, (HN7.out k hk).2.1⟩, hcr, by have := X6.out; omega⟩
theorem eqnN60 (c : Nat) (w : World) : (binOp .eql 60 (.slice none 0 c) (.slice none 0 0)).run Tryd.prog w = .ok (.bool true) w := by kernel_rfl
theorem eqnS60 (ad : Addr) (n c : Nat) (w : World) : (binOp .eql 60 (.slice (some ad) n c) (.slice none 0 0)).run Tryd.prog w = .ok (.bool false) w := by kernel_rfl
set_option maxRecDepth 8000 in
theorem cloneB (v : Value) (L : List BX) (w : World) (hv : OwnB w v L) (hSl : SlB L) (hL : L.length ≤ 1000000000) : Calls Tryd.prog 24 #[v] w fun e w' => ∃ v', e = .returned v' ∧ OwnB w' v' L ∧ (∀ k, v'.ownBlock = some k → w.heap.size ≤ k) ∧ Below w.heap.size w w' := by
 rcases hv.form with ⟨rfl, rfl⟩ | ⟨gg, cap, cur, rfl, h3, h4, h5, h6, h7⟩
 ·clear hv hSl hL
  go_enter Tryd.func24, Tryd.ntmps24
  refine wp_seq_k fun K1 hK1 => rgn ?_
  refine VlS (.slice none 0 0) ?_
  refine WL.nil (hK1 _ _ ?_)
  refine wp_seq_k fun K2 hK2 => ?_
  refine wp_seq_k fun K3 hK3 => rgn ?_
  refine VlS (.slice none 0 0) ?_
  refine WL.val (by kernel_rfl) (.bool true) (by go_simp; rw [eqnN60]; rfl) ?_
  simp only [Act.put, pqA, pqB, pqC]
  refine WL.nil (hK3 _ _ ?_)
  refine wp_cond_true rfl ?_
  refine wp_seq_k fun K4 hK4 => rgn ?_
  refine VlS (.slice none 0 0) ?_
  refine WL.nil (hK4 _ _ ?_)
  refine wp_ret ?_
  go_ret
  exact ⟨_, rfl, ownB_nil _, (fun k hk => by cases hk), Below.refl _ _⟩
 ·have HSl := Keep.mk hSl
  have HL := Keep.mk hL
  have HC : Keep (∀ w1 : World, Below w.heap.size w w1 → ∀ j u, (bkL L)[j]? = some u → w1.cell? ⟨gg, j, none⟩ = some u) := ⟨fun w1 hb j u hu => by
   have hj := (List.getElem?_eq_some_iff.1 hu).1
   rw [bkL_len] at hj
   rw [(h3.below hb h3.lt).cell, ← hu, ← h7, List.getElem?_take, if_pos hj, Array.getElem?_toList]⟩
  clear hv hSl hL h3 h4 h5 h6 h7
  go_enter Tryd.func24, Tryd.ntmps24
  refine wp_seq_k fun K1 hK1 => rgn ?_
  refine VlS (.slice none 0 0) ?_
  refine WL.nil (hK1 _ _ ?_)
  refine wp_seq_k fun K2 hK2 => ?_
  refine wp_seq_k fun K3 hK3 => rgn ?_
  refine VlS (.slice (some ⟨gg, 0, none⟩) L.length cap) ?_
  refine WL.val (by kernel_rfl) (.bool false) (by go_simp; rw [eqnS60]; rfl) ?_
  simp only [Act.put, pqA, pqB, pqC]
  refine WL.nil (hK3 _ _ ?_)
  refine wp_cond_false rfl ?_
  refine wp_skip ?_
  refine hK2 _ _ ?_
  refine wp_seq_k fun K4 hK4 => rgn ?_
  refine WL.bs (by kernel_rfl) 60 0 _ rfl #[] (by simp) _ _ (bsBkE w) ?_
  have O1 := Keep.mk (ownB_empty w)
  have B1 := Keep.mk (below_new w (.cells #[] 76))
  generalize w.alloc (.cells #[] 76) = w1 at *
  simp only [Act.put, pqA, pqB, pqC]
  refine VlS (.slice (some ⟨gg, 0, none⟩) L.length cap) ?_
  refine WL.appB (by kernel_rfl) (.tmp 5) (.tmp 6) rfl (.slice (some ⟨w.heap.size, 0, none⟩) 0 0) [] gg 0 cap L HSl.out rfl rfl O1.out (fun j u hu => by rw [Nat.zero_add]; exact HC.out w1 B1.out j u hu) (by have := HL.out; simp only [List.length_nil]; omega) fun v2 w2 h1 h2 h3 => ?_
  have O2 : Keep (OwnB w2 v2 L) := ⟨h1⟩
  have B2 : Keep (Below w.heap.size w w2) := ⟨B1.out.trans (h2.to_below (fun k hk e => by simp [Value.ownBlock] at e; omega) B1.out.size)⟩
  have N2 : Keep (∀ k, v2.ownBlock = some k → w.heap.size ≤ k) := ⟨fun k hk => by rcases h3 with e | ⟨j, e, hj⟩ <;> rw [hk] at e; simp [Value.ownBlock] at e; omega; have := Option.some.inj e; have := B1.out.size; omega⟩
  clear h1 h2 h3
  simp only [Act.put, pqA, pqB, pqC]
  refine VlS (v2) ?_
  refine WL.nil (hK4 _ _ ?_)
  refine wp_ret ?_
  go_ret
  exact ⟨_, rfl, O2.out, N2.out, B2.out⟩
set_option maxRecDepth 8000 in
theorem ball_any (s : Nat) (w : World) : Calls Tryd.prog 12 #[.pointer (some ⟨s, 0, none⟩)] w fun e w' => e = .returned (.func (.func 23) #[] #[.pointer (some ⟨w.heap.size, 0, none⟩)]) ∧ w' = w.alloc (.cells #[.pointer (some ⟨s, 0, none⟩)] 30) := by
 go_enter Tryd.func12, Tryd.ntmps12
 refine wp_seq_k fun K1 hK1 => rgn ?_
 refine WL.valW (by kernel_rfl) (.pointer (some ⟨w.heap.size, 0, none⟩)) (w.alloc (.cells #[.pointer (some ⟨s, 0, none⟩)] 30)) (by go_simp) ?_
 simp only [Act.put, pqA, pqB, pqC]
 refine VlS (.nilFunc) ?_
 refine WL.nil (hK1 _ _ ?_)
 refine wp_seq_k fun K2 hK2 => rgn ?_
 refine VlS (.func (.func 23) #[] #[.pointer (some ⟨w.heap.size, 0, none⟩)]) ?_
 refine VlS (.func (.func 23) #[] #[.pointer (some ⟨w.heap.size, 0, none⟩)]) ?_
 refine WL.nil (hK2 _ _ ?_)
 refine wp_ret ?_
 go_ret
 exact ⟨rfl, rfl⟩

def encB (x : BX) : Array Value := #[.agg (bytesA 32 (shaP x.1)), x.2]
def FxB (L : List BX) (pre : List BX) (x : BX) (W : World) : Prop := (L.map (·.1))[pre.length]? = some x.1 ∧ RowAt W x.2 x.1 ∧ x.1 ≠ [] ∧ ∃ a n c, x.2 = .slice a n c
def KpB (B : Nat) (A C : World) : Prop := Below B A C ∧ ∀ k cs, Blk A k 76 cs → Blk C k 76 cs
theorem KpB.trans {B : Nat} {A C E : World} (h : KpB B A C) (k : KpB B C E) : KpB B A E := ⟨h.1.trans k.1, fun j cs hj => k.2 j cs (h.2 j cs hj)⟩
theorem OwnB.kp {B : Nat} {A C : World} {v : Value} {L : List BX} (h : OwnB A v L) (k : KpB B A C) : OwnB C v L := by
 refine ⟨h.1, ?_⟩
 rcases h.2 with h1 | ⟨g, cap, cur, rfl, h2, h3, h4⟩
 ·exact .inl h1
 ·exact .inr ⟨g, cap, cur, rfl, h2, k.2 g cur h3, h4⟩
theorem wp_loadA {P : Program} {Q : Exit → Act → World → Prop} {o : Oper} {a : Act} {w : World} {K : Act → World → Prop} (ty : TypeId) (x : Operand) (ho : o.op = .load ty x) (b of : Nat) (hx : a.eval x = .pointer (some ⟨b, of, none⟩)) (cs : Array Value) (d : TypeDesc) (hc : w.rangeAt b of cs.toList)
  (hu : P.underlying ty = some d) (hd : d.isRow = true) (hi : (P.info? ty).map (·.size) = some cs.size) (h : K (a.put o.dst (.agg cs)) w) : o.wp P a w K Q :=
 wp_load_mid ty x ho b of hx cs.toList d hc hu hd (by rw [Array.length_toList]; exact hi) (by rw [Array.toArray_toList]; exact h)
theorem bk_hash {w : World} {g : Nat} {q : List Int} {r : Value} (h : Blk w g 76 (bkA q r)) : w.rangeAt g 0 (bytesA 32 (shaP q)).toList := fun j v hv => by
 have hj : j < 32 := by have := (List.getElem?_eq_some_iff.1 hv).1; rwa [Array.length_toList, bytesA_size] at this
 rw [Nat.zero_add, h.cell, bkA, Array.getElem?_append_left (by rw [bytesA_size]; exact hj), ← Array.getElem?_toList]
 exact hv
theorem clone_any (ra : Option Addr) (rn rc : Nat) (q : List Int) (w : World) (hr : RowAt w (.slice ra rn rc) q) (hq : q ≠ []) (hl : q.length ≤ 140737488355328) : Calls Tryd.prog 21 #[.slice ra rn rc] w fun e w' => ∃ v', e = .returned v' ∧ RowAt w' v' q ∧ Below w.heap.size w w' := by
 have h := hr
 rcases h with ⟨_, e⟩ | ⟨_, _, _, e⟩ | ⟨b, off, cap, e, h1, h2⟩
 ·exact absurd e hq
 ·exact absurd e hq
 ·rw [e] at hr ⊢
  refine (clone_row b off cap q w hr (List.length_pos_iff.2 hq) hl).mono ?_
  rintro e w' ⟨v', rfl, h1, _, h3⟩
  exact ⟨v', rfl, h1.row, h3⟩
set_option maxRecDepth 8000 in
set_option maxHeartbeats 2000000 in
theorem ball_told (n Bs s g m : Nat) (vl : Value) (L : List BX) (wb w : World) (hA : StoAt wb s g m vl L false) (hPl : ∀ x ∈ L, x.1.length ≤ 140737488355328) (hLn : L.length ≤ 1000000000) (hb : Below wb.heap.size wb w) (hBs : Blk w Bs 30 #[.pointer (some ⟨s, 0, none⟩)]) :
  Told n Tryd.prog 23 #[.pointer (some ⟨Bs, 0, none⟩)] encB (FxB L) (KpB wb.heap.size) (fun xs => xs.map (·.1) = L.map (·.1)) L.length w := by
 intro l J W hW hJ hY h0
 obtain ⟨va, vc, rfl⟩ := hA.ol.sl
 have HA := Keep.mk hA
 have HJ := Keep.mk hJ
 have HLn := Keep.mk hLn
 have HPl : Keep (∀ {t : Nat} (x : BX), L[t]? = some x → x.1.length ≤ 140737488355328) := ⟨fun x hx => hPl x (List.mem_of_getElem? hx)⟩
 have HSl : Keep (SlB L) := ⟨fun x hx => by obtain ⟨a, c, e⟩ := row_form (hA.rows x hx).1; exact ⟨a, _, c, e⟩⟩
 have HB : Keep (Below wb.heap.size wb W) := ⟨belowC hb hW hb.size⟩
 have cB : W.cell? ⟨Bs, 0, none⟩ = some (.pointer (some ⟨s, 0, none⟩)) := (hBs.below hW hBs.lt).c 0 rfl
 have cP : W.cell? ⟨s, 1, none⟩ = some (.slice va L.length vc) := (hA.below HB.out).bs.c 1 rfl
 clear hA hb hBs hW hJ hLn hPl
 refine callsIn_of_wp Tryd.func23 rfl trivial ?_
 refine wpIn_wide.2 ?_
 simp only [Tryd.ntmps23, List.size_toArray, List.length_cons, List.length_nil, Nat.reduceAdd, Nat.reduceSub, Array.replicate_succ, Array.replicate_zero, List.push_toArray, List.append_toArray, List.nil_append, List.cons_append]
 refine wp_seq_k fun K1 hK1 => rgn ?_
 refine VlS (.pointer (some ⟨s, 0, none⟩)) ?_
 refine VlS (.pointer (some ⟨s, 0, none⟩)) ?_
 refine VlS (.pointer (some ⟨s, 1, none⟩)) ?_
 refine VlS (.slice va L.length vc) ?_
 refine WL.callF (by kernel_rfl) 24 _ _ rfl Tryd.in24 #[.slice va L.length vc] (by simp [Act.eval]) ?_
 clear cB cP
 refine (cloneB (.slice va L.length vc) L W (HA.out.below HB.out).ol HSl.out HLn.out).mono ?_
 rintro e w1 ⟨v', rfl, h1, h2, h3⟩
 obtain ⟨xa, xc, rfl⟩ := h1.sl
 have O1 := Keep.mk h1
 have B1 : Keep (Below wb.heap.size wb w1) := ⟨belowC HB.out h3 HB.out.size⟩
 have J1 : Keep (J [] w1) := ⟨abides_below HJ.out h0 h3⟩
 clear h1 h2 h3
 refine ⟨_, rfl, ?_⟩
 simp only [Act.put, pqA, pqB, pqC]
 refine VlS (.int .i64 (L.length : Int)) ?_
 refine VlS (.int .i64 0) ?_
 refine WL.nil (hK1 _ _ ?_)
 refine wp_block ?_
 refine wp_loop (fun ac wr => ∃ (t : Nat) (u4 u12 u13 u14 u15 u16 u17 u18 u19 u20 u21 u22 u23 : Value), ac = { tmps := #[.func (.yield l) #[] #[], .pointer (some ⟨Bs, 0, none⟩), undef, undef, u4, .pointer (some ⟨s, 0, none⟩), .pointer (some ⟨s, 0, none⟩), .pointer (some ⟨s, 1, none⟩), .slice va L.length vc, .slice xa L.length xc, .int .i64 (L.length : Int), .int .i64 (t : Int), u12, u13, u14, u15, u16, u17, u18, u19, u20, u21, u22, u23], defers := [] } ∧ t ≤ L.length ∧ Below wb.heap.size wb wr ∧ OwnB wr (.slice xa L.length xc) L ∧ ∃ pre : List BX, (pre.map (·.1) = (L.map (·.1)).take t ∧ pre.length = t) ∧ J pre wr) (fun a _ => L.length - (intOf (a.tmps.getD 11 undef)).toNat) ⟨0, undef, undef, undef, undef, undef, undef, undef, undef, undef, undef, undef, undef, undef, rfl, by omega, B1.out, O1.out, [], ⟨by simp, rfl⟩, J1.out⟩ ?_
 rintro ac wr ⟨t, u4, u12, u13, u14, u15, u16, u17, u18, u19, u20, u21, u22, u23, rfl, ht, hB, hO, pre, hX, hJr⟩
 have JJ := Keep.mk hJr
 have JX := Keep.mk hX
 have JB := Keep.mk hB
 have JO := Keep.mk hO
 clear hJr hX hB hO
 by_cases htl : t < L.length
 ·have htl' : (t : Int) < (L.length : Int) := by omega
  have ht0 : (0 : Int) ≤ (t : Int) := by omega
  have hwt : IntKind.i64.wrap ((t : Int) + 1) = ((t + 1 : Nat) : Int) := by rw [IntKind.wrap_i64]; have := HLn.out; omega
  obtain ⟨x, hx⟩ : ∃ x, L[t]? = some x := ⟨_, List.getElem?_eq_getElem htl⟩
  obtain ⟨qq, rr⟩ := x
  obtain ⟨ra, rn, rc, hrr⟩ := HSl.out _ (List.mem_of_getElem? hx)
  have hrr : rr = .slice ra rn rc := hrr
  subst hrr
  obtain ⟨sb, hsa, hrg⟩ := JO.out.at hx
  subst hsa
  have HRg : Keep (wr.rangeAt sb (0 + t * 33) (bkA qq (.slice ra rn rc)).toList) := ⟨by rw [Nat.zero_add]; exact hrg⟩
  have HXt : Keep (L[t]? = some (qq, .slice ra rn rc)) := ⟨hx⟩
  have HRw := Keep.mk (HA.out.rows _ (List.mem_of_getElem? hx))
  clear hrg hx
  refine wp_seq_k fun K2 hK2 => rgn ?_
  refine VlS (.bool true) ?_
  refine WL.nil (hK2 _ _ ?_)
  refine wp_seq_k fun K3 hK3 => ?_
  refine wp_cond_true rfl ?_
  refine wp_skip ?_
  refine hK3 _ _ ?_
  refine wp_seq_k fun K4 hK4 => ?_
  refine wp_block ?_
  refine wp_seq_k fun K5 hK5 => rgn ?_
  refine VlS (.pointer (some ⟨sb, 0 + t * 33, none⟩)) ?_
  refine WL.midA (by kernel_rfl) 76 (.tmp 13) rfl sb (0 + t * 33) rfl (bkA qq (.slice ra rn rc)) _ HRg.out Tryd.underlying76 rfl (Tryd.sizeBkA _ _) ?_
  simp only [Act.put, pqA, pqB, pqC]
  refine WL.new (by kernel_rfl) 76 rfl _ Tryd.newBk ?_
  have HZ := Keep.mk (Blk.new wr 76 bkZ)
  have LB := Keep.mk (below_new wr (.cells bkZ 76))
  change WL _ _ _ _ _ (wr.alloc (.cells bkZ 76))
  generalize wr.alloc (.cells bkZ 76) = w2 at *
  obtain ⟨gq, hgq⟩ : ∃ z, Keep (z = wr.heap.size) := ⟨_, ⟨rfl⟩⟩
  rw [← hgq.out] at HZ ⊢
  simp only [Act.put, pqA, pqB, pqC]
  refine WL.storeR (by kernel_rfl) 76 (.tmp 4) (.tmp 14) rfl gq (bkA qq (.slice ra rn rc)) rfl rfl 76 bkZ HZ.out (Tryd.sizeBkA _ _) (by rw [bkZ_size, bkA_size]) (bkA_one _ _ rfl) ?_
  have HX := Keep.mk (HZ.out.setRow (bkA qq (.slice ra rn rc)))
  have LX : Keep (Below wr.heap.size wr (w2.setRow gq (bkA qq (.slice ra rn rc)))) := ⟨below_setRow LB.out (by rw [hgq.out]; exact Nat.le_refl _) _⟩
  generalize w2.setRow gq (bkA qq (.slice ra rn rc)) = wx at *
  clear HZ LB HRg hgq
  have JJx : Keep (J pre wx) := ⟨abides_below HJ.out JJ.out LX.out⟩
  have JBx : Keep (Below wb.heap.size wb wx) := ⟨belowC JB.out LX.out JB.out.size⟩
  have JOx : Keep (OwnB wx (.slice (some ⟨sb, 0, none⟩) L.length xc) L) := ⟨JO.out.below LX.out⟩
  clear JJ JB JO LX
  simp only [Act.put]
  refine WL.nil (hK5 _ _ ?_)
  refine wp_seq_k fun K6 hK6 => ?_
  refine (wpIn_wide (n := n)).1 ?_
  refine wpIn_region_any (by kernel_rfl) ?_
  change wpAnyIn _ _ _ _ _ _ _ _ _ wx.drew
  have HX0 := Keep.mk HX.out.drew
  have JJ0 : Keep (J pre wx.drew) := ⟨abides_below HJ.out JJx.out (Below.refl _ _).drew⟩
  have JB0 : Keep (Below wb.heap.size wb wx.drew) := ⟨JBx.out.drew⟩
  have JO0 : Keep (OwnB wx.drew (.slice (some ⟨sb, 0, none⟩) L.length xc) L) := ⟨JOx.out.below (Below.refl _ _).drew⟩
  clear HX JJx JBx JOx
  generalize wx.drew = w0 at *
  refine wpAnyIn_take (i := 0) (oi := ⟨some 15, Op.move (Operand.tmp 0), 73, _, _, none⟩) (v := .func (.yield l) #[] #[]) rfl rfl (by kernel_rfl) (by kernel_rfl) (by kernel_rfl) (fun _ _ _ h => h) ⟨Or.inl ⟨by rfl, fun w => by go_simp⟩, fun w => rfl⟩ ?_
  simp only [Act.put, pqA, pqB, pqC]
  refine wpAnyIn_take (i := 1) (oi := ⟨some 16, Op.fieldAddr 76 (Operand.tmp 4) 0, 0, _, _, none⟩) (v := .pointer (some ⟨gq, 0, none⟩)) rfl rfl (by kernel_rfl) (by kernel_rfl) (by kernel_rfl) (fun _ _ _ h => h) ⟨Or.inl ⟨by rfl, fun w => by go_simp⟩, fun w => rfl⟩ ?_
  simp only [Act.put, pqA, pqB, pqC]
  refine wpAnyIn_take (i := 3) (oi := ⟨some 18, Op.fieldAddr 76 (Operand.tmp 4) 1, 0, _, _, none⟩) (v := .pointer (some ⟨gq, 32, none⟩)) rfl rfl (by kernel_rfl) (by kernel_rfl) (by kernel_rfl) (fun _ _ _ h => h) ⟨Or.inl ⟨by rfl, fun w => by go_simp⟩, fun w => rfl⟩ ?_
  simp only [Act.put, pqA, pqB, pqC]
  refine wpAnyIn_ready (rs := [2, 4]) (by kernel_rfl) (by simp) ?_
  refine AllReadyIn.cons (o := ⟨some 17, Op.load 38 (Operand.tmp 16), 38, _, _, none⟩) rfl (fun K hK => ?_) (AllReadyIn.cons (o := ⟨some 19, Op.load 41 (Operand.tmp 18), 41, _, _, none⟩) rfl (fun K hK => ?_) AllReadyIn.nil)
  ·rw [if_pos (by rfl)]
   refine op_in (K := K) (.inl rfl) (fun c e => by cases e) (fun _ _ h => h) ?_
   refine wp_loadA 38 (.tmp 16) rfl gq 0 rfl (bytesA 32 (shaP qq)) _ (bk_hash HX0.out) Tryd.underlying38 rfl (Tryd.size38B _) ?_
   refine hK _ _ ?_
   clear hK
   simp only [Act.put, pqA, pqB, pqC]
   refine wpAnyIn_ready (rs := [4]) (by kernel_rfl) (by simp) ?_
   refine AllReadyIn.cons (o := ⟨some 19, Op.load 41 (Operand.tmp 18), 41, _, _, none⟩) rfl (fun K hK => ?_) AllReadyIn.nil
   rw [if_pos (by rfl)]
   refine op_in (K := K) (.inl rfl) (fun c e => by cases e) (fun _ _ h => h) ?_
   have c32 : w0.cell? ⟨gq, 32, none⟩ = some (.slice ra rn rc) := by rw [HX0.out.cell]; exact bkA_row _ _
   refine wp_val (.slice ra rn rc) (by go_simp) ?_
   clear c32
   refine hK _ _ ?_
   clear hK
   simp only [Act.put, pqA, pqB, pqC]
   refine wpAnyIn_ready (rs := [5]) (by kernel_rfl) (by simp) ?_
   refine AllReadyIn.cons (o := ⟨some 20, Op.call { callee := Callee.value (Operand.func 21), args := #[Operand.tmp 19], argTypes := #[41] }, 41, _, _, none⟩) rfl (fun K hK => ?_) AllReadyIn.nil
   rw [if_pos (by rfl)]
   refine op_in (K := K) (.inl rfl) (fun c e => by cases e) (fun _ _ h => h) ?_
   refine wp_callF 21 _ _ rfl Tryd.in21 #[.slice ra rn rc] (by simp [Act.eval]) (fun vz wz => ∃ ca cn cc, vz = .slice ca cn cc ∧ RowAt wz vz qq ∧ Below w0.heap.size w0 wz) ?_ ?_
   ·refine (clone_any ra rn rc qq w0 (HRw.out.1.below JB0.out) HRw.out.2 (HPl.out _ HXt.out)).mono ?_
    rintro e wz ⟨v', rfl, h1, h2⟩
    obtain ⟨ca, cc, rfl⟩ := row_form h1
    exact ⟨_, rfl, _, _, _, rfl, h1, h2⟩
   rintro vz w5 ⟨ca, cn, cc, rfl, h1, h2⟩
   have R5 := Keep.mk h1
   have HX5 := Keep.mk (HX0.out.below h2 HX0.out.lt)
   have JJ5 : Keep (J pre w5) := ⟨abides_below HJ.out JJ0.out h2⟩
   have JB5 : Keep (Below wb.heap.size wb w5) := ⟨belowC JB0.out h2 JB0.out.size⟩
   have JO5 := Keep.mk (JO0.out.below h2)
   clear h1 h2 HX0 JJ0 JB0 JO0
   refine hK _ _ ?_
   clear hK
   simp only [Act.put, pqA, pqB, pqC]
   refine wpAnyIn_ready (rs := [6]) (by kernel_rfl) (by simp) ?_
   refine AllReadyIn.cons (o := ⟨some 21, Op.call { callee := Callee.value (Operand.tmp 15), args := #[Operand.tmp 17, Operand.tmp 20], argTypes := #[38, 41] }, 4, _, _, none⟩) rfl (fun K hK => ?_) AllReadyIn.nil
   rw [if_pos (by rfl)]
   refine yield_in l (.tmp 15) _ _ rfl rfl (encB (qq, .slice ca cn cc)) (by simp [Act.eval, encB]) (hY pre (qq, .slice ca cn cc) w5 JJ5.out ⟨by rw [List.getElem?_map, JX.out.2, HXt.out]; rfl, R5.out, HRw.out.2, _, _, _, rfl⟩ (by rw [JX.out.2]; exact htl)) ?_
   rintro e w6 ⟨rfl, hJ6, hK6, -⟩
   refine ⟨_, rfl, ?_⟩
   have J6 := Keep.mk hJ6
   have JB6 : Keep (Below wb.heap.size wb w6) := ⟨JB5.out.trans hK6.1⟩
   have JO6 := Keep.mk (JO5.out.kp hK6)
   clear hJ6 hK6 JJ5 JB5 JO5
   refine hK _ _ ?_
   clear hK
   simp only [Act.put, pqA, pqB, pqC]
   refine wpAnyIn_take (i := 7) (oi := ⟨some 22, Op.unOp UnOp.not 4 (Operand.tmp 21), 4, _, _, none⟩) (v := .bool false) rfl rfl (by kernel_rfl) (by kernel_rfl) (by kernel_rfl) (fun _ _ _ h => h) ⟨Or.inl ⟨by rfl, fun w => by go_simp⟩, fun w => rfl⟩ ?_
   simp only [Act.put, pqA, pqB, pqC]
   refine wpAnyIn_done (by kernel_rfl) ?_ _
   refine hK6 _ _ ?_
   refine wp_cond_false rfl ?_
   refine wp_skip ?_
   refine hK4 _ _ ?_
   refine rgn ?_
   refine VlS (.int .i64 ((t + 1 : Nat) : Int)) ?_
   refine VlS (.int .i64 ((t + 1 : Nat) : Int)) ?_
   refine WL.nil ?_
   refine ⟨⟨t + 1, .pointer (some ⟨gq, 0, none⟩), .bool true, .pointer (some ⟨sb, 0 + t * 33, none⟩), .agg (bkA qq (.slice ra rn rc)), .func (.yield l) #[] #[], .pointer (some ⟨gq, 0, none⟩), .agg (bytesA 32 (shaP qq)), .pointer (some ⟨gq, 32, none⟩), .slice ra rn rc, .slice ca cn cc, .bool true, .bool false, .int .i64 ((t + 1 : Nat) : Int), rfl, by omega, JB6.out, JO6.out, pre ++ [(qq, .slice ca cn cc)], ⟨?_, by rw [List.length_append, JX.out.2]; rfl⟩, J6.out⟩, by simp [intOf]; omega⟩
   rw [List.map_append, JX.out.1, List.take_add_one, List.getElem?_map, HXt.out]; rfl
  ·rw [if_pos (by rfl)]
   refine op_in (K := K) (.inl rfl) (fun c e => by cases e) (fun _ _ h => h) ?_
   have c32 : w0.cell? ⟨gq, 32, none⟩ = some (.slice ra rn rc) := by rw [HX0.out.cell]; exact bkA_row _ _
   refine wp_val (.slice ra rn rc) (by go_simp) ?_
   clear c32
   refine hK _ _ ?_
   clear hK
   simp only [Act.put, pqA, pqB, pqC]
   refine wpAnyIn_ready (rs := [2, 5]) (by kernel_rfl) (by simp) ?_
   refine AllReadyIn.cons (o := ⟨some 17, Op.load 38 (Operand.tmp 16), 38, _, _, none⟩) rfl (fun K hK => ?_) (AllReadyIn.cons (o := ⟨some 20, Op.call { callee := Callee.value (Operand.func 21), args := #[Operand.tmp 19], argTypes := #[41] }, 41, _, _, none⟩) rfl (fun K hK => ?_) AllReadyIn.nil)
   ·rw [if_pos (by rfl)]
    refine op_in (K := K) (.inl rfl) (fun c e => by cases e) (fun _ _ h => h) ?_
    refine wp_loadA 38 (.tmp 16) rfl gq 0 rfl (bytesA 32 (shaP qq)) _ (bk_hash HX0.out) Tryd.underlying38 rfl (Tryd.size38B _) ?_
    refine hK _ _ ?_
    clear hK
    simp only [Act.put, pqA, pqB, pqC]
    refine wpAnyIn_ready (rs := [5]) (by kernel_rfl) (by simp) ?_
    refine AllReadyIn.cons (o := ⟨some 20, Op.call { callee := Callee.value (Operand.func 21), args := #[Operand.tmp 19], argTypes := #[41] }, 41, _, _, none⟩) rfl (fun K hK => ?_) AllReadyIn.nil
    rw [if_pos (by rfl)]
    refine op_in (K := K) (.inl rfl) (fun c e => by cases e) (fun _ _ h => h) ?_
    refine wp_callF 21 _ _ rfl Tryd.in21 #[.slice ra rn rc] (by simp [Act.eval]) (fun vz wz => ∃ ca cn cc, vz = .slice ca cn cc ∧ RowAt wz vz qq ∧ Below w0.heap.size w0 wz) ?_ ?_
    ·refine (clone_any ra rn rc qq w0 (HRw.out.1.below JB0.out) HRw.out.2 (HPl.out _ HXt.out)).mono ?_
     rintro e wz ⟨v', rfl, h1, h2⟩
     obtain ⟨ca, cc, rfl⟩ := row_form h1
     exact ⟨_, rfl, _, _, _, rfl, h1, h2⟩
    rintro vz w5 ⟨ca, cn, cc, rfl, h1, h2⟩
    have R5 := Keep.mk h1
    have HX5 := Keep.mk (HX0.out.below h2 HX0.out.lt)
    have JJ5 : Keep (J pre w5) := ⟨abides_below HJ.out JJ0.out h2⟩
    have JB5 : Keep (Below wb.heap.size wb w5) := ⟨belowC JB0.out h2 JB0.out.size⟩
    have JO5 := Keep.mk (JO0.out.below h2)
    clear h1 h2 HX0 JJ0 JB0 JO0
    refine hK _ _ ?_
    clear hK
    simp only [Act.put, pqA, pqB, pqC]
    refine wpAnyIn_ready (rs := [6]) (by kernel_rfl) (by simp) ?_
    refine AllReadyIn.cons (o := ⟨some 21, Op.call { callee := Callee.value (Operand.tmp 15), args := #[Operand.tmp 17, Operand.tmp 20], argTypes := #[38, 41] }, 4, _, _, none⟩) rfl (fun K hK => ?_) AllReadyIn.nil
    rw [if_pos (by rfl)]
    refine yield_in l (.tmp 15) _ _ rfl rfl (encB (qq, .slice ca cn cc)) (by simp [Act.eval, encB]) (hY pre (qq, .slice ca cn cc) w5 JJ5.out ⟨by rw [List.getElem?_map, JX.out.2, HXt.out]; rfl, R5.out, HRw.out.2, _, _, _, rfl⟩ (by rw [JX.out.2]; exact htl)) ?_
    rintro e w6 ⟨rfl, hJ6, hK6, -⟩
    refine ⟨_, rfl, ?_⟩
    have J6 := Keep.mk hJ6
    have JB6 : Keep (Below wb.heap.size wb w6) := ⟨JB5.out.trans hK6.1⟩
    have JO6 := Keep.mk (JO5.out.kp hK6)
    clear hJ6 hK6 JJ5 JB5 JO5
    refine hK _ _ ?_
    clear hK
    simp only [Act.put, pqA, pqB, pqC]
    refine wpAnyIn_take (i := 7) (oi := ⟨some 22, Op.unOp UnOp.not 4 (Operand.tmp 21), 4, _, _, none⟩) (v := .bool false) rfl rfl (by kernel_rfl) (by kernel_rfl) (by kernel_rfl) (fun _ _ _ h => h) ⟨Or.inl ⟨by rfl, fun w => by go_simp⟩, fun w => rfl⟩ ?_
    simp only [Act.put, pqA, pqB, pqC]
    refine wpAnyIn_done (by kernel_rfl) ?_ _
    refine hK6 _ _ ?_
    refine wp_cond_false rfl ?_
    refine wp_skip ?_
    refine hK4 _ _ ?_
    refine rgn ?_
    refine VlS (.int .i64 ((t + 1 : Nat) : Int)) ?_
    refine VlS (.int .i64 ((t + 1 : Nat) : Int)) ?_
    refine WL.nil ?_
    refine ⟨⟨t + 1, .pointer (some ⟨gq, 0, none⟩), .bool true, .pointer (some ⟨sb, 0 + t * 33, none⟩), .agg (bkA qq (.slice ra rn rc)), .func (.yield l) #[] #[], .pointer (some ⟨gq, 0, none⟩), .agg (bytesA 32 (shaP qq)), .pointer (some ⟨gq, 32, none⟩), .slice ra rn rc, .slice ca cn cc, .bool true, .bool false, .int .i64 ((t + 1 : Nat) : Int), rfl, by omega, JB6.out, JO6.out, pre ++ [(qq, .slice ca cn cc)], ⟨?_, by rw [List.length_append, JX.out.2]; rfl⟩, J6.out⟩, by simp [intOf]; omega⟩
    rw [List.map_append, JX.out.1, List.take_add_one, List.getElem?_map, HXt.out]; rfl
   ·rw [if_pos (by rfl)]
    refine op_in (K := K) (.inl rfl) (fun c e => by cases e) (fun _ _ h => h) ?_
    refine wp_callF 21 _ _ rfl Tryd.in21 #[.slice ra rn rc] (by simp [Act.eval]) (fun vz wz => ∃ ca cn cc, vz = .slice ca cn cc ∧ RowAt wz vz qq ∧ Below w0.heap.size w0 wz) ?_ ?_
    ·refine (clone_any ra rn rc qq w0 (HRw.out.1.below JB0.out) HRw.out.2 (HPl.out _ HXt.out)).mono ?_
     rintro e wz ⟨v', rfl, h1, h2⟩
     obtain ⟨ca, cc, rfl⟩ := row_form h1
     exact ⟨_, rfl, _, _, _, rfl, h1, h2⟩
    rintro vz w5 ⟨ca, cn, cc, rfl, h1, h2⟩
    have R5 := Keep.mk h1
    have HX5 := Keep.mk (HX0.out.below h2 HX0.out.lt)
    have JJ5 : Keep (J pre w5) := ⟨abides_below HJ.out JJ0.out h2⟩
    have JB5 : Keep (Below wb.heap.size wb w5) := ⟨belowC JB0.out h2 JB0.out.size⟩
    have JO5 := Keep.mk (JO0.out.below h2)
    clear h1 h2 HX0 JJ0 JB0 JO0
    refine hK _ _ ?_
    clear hK
    simp only [Act.put, pqA, pqB, pqC]
    refine wpAnyIn_ready (rs := [2]) (by kernel_rfl) (by simp) ?_
    refine AllReadyIn.cons (o := ⟨some 17, Op.load 38 (Operand.tmp 16), 38, _, _, none⟩) rfl (fun K hK => ?_) AllReadyIn.nil
    rw [if_pos (by rfl)]
    refine op_in (K := K) (.inl rfl) (fun c e => by cases e) (fun _ _ h => h) ?_
    refine wp_loadA 38 (.tmp 16) rfl gq 0 rfl (bytesA 32 (shaP qq)) _ (bk_hash HX5.out) Tryd.underlying38 rfl (Tryd.size38B _) ?_
    refine hK _ _ ?_
    clear hK
    simp only [Act.put, pqA, pqB, pqC]
    refine wpAnyIn_ready (rs := [6]) (by kernel_rfl) (by simp) ?_
    refine AllReadyIn.cons (o := ⟨some 21, Op.call { callee := Callee.value (Operand.tmp 15), args := #[Operand.tmp 17, Operand.tmp 20], argTypes := #[38, 41] }, 4, _, _, none⟩) rfl (fun K hK => ?_) AllReadyIn.nil
    rw [if_pos (by rfl)]
    refine yield_in l (.tmp 15) _ _ rfl rfl (encB (qq, .slice ca cn cc)) (by simp [Act.eval, encB]) (hY pre (qq, .slice ca cn cc) w5 JJ5.out ⟨by rw [List.getElem?_map, JX.out.2, HXt.out]; rfl, R5.out, HRw.out.2, _, _, _, rfl⟩ (by rw [JX.out.2]; exact htl)) ?_
    rintro e w6 ⟨rfl, hJ6, hK6, -⟩
    refine ⟨_, rfl, ?_⟩
    have J6 := Keep.mk hJ6
    have JB6 : Keep (Below wb.heap.size wb w6) := ⟨JB5.out.trans hK6.1⟩
    have JO6 := Keep.mk (JO5.out.kp hK6)
    clear hJ6 hK6 JJ5 JB5 JO5
    refine hK _ _ ?_
    clear hK
    simp only [Act.put, pqA, pqB, pqC]
    refine wpAnyIn_take (i := 7) (oi := ⟨some 22, Op.unOp UnOp.not 4 (Operand.tmp 21), 4, _, _, none⟩) (v := .bool false) rfl rfl (by kernel_rfl) (by kernel_rfl) (by kernel_rfl) (fun _ _ _ h => h) ⟨Or.inl ⟨by rfl, fun w => by go_simp⟩, fun w => rfl⟩ ?_
    simp only [Act.put, pqA, pqB, pqC]
    refine wpAnyIn_done (by kernel_rfl) ?_ _
    refine hK6 _ _ ?_
    refine wp_cond_false rfl ?_
    refine wp_skip ?_
    refine hK4 _ _ ?_
    refine rgn ?_
    refine VlS (.int .i64 ((t + 1 : Nat) : Int)) ?_
    refine VlS (.int .i64 ((t + 1 : Nat) : Int)) ?_
    refine WL.nil ?_
    refine ⟨⟨t + 1, .pointer (some ⟨gq, 0, none⟩), .bool true, .pointer (some ⟨sb, 0 + t * 33, none⟩), .agg (bkA qq (.slice ra rn rc)), .func (.yield l) #[] #[], .pointer (some ⟨gq, 0, none⟩), .agg (bytesA 32 (shaP qq)), .pointer (some ⟨gq, 32, none⟩), .slice ra rn rc, .slice ca cn cc, .bool true, .bool false, .int .i64 ((t + 1 : Nat) : Int), rfl, by omega, JB6.out, JO6.out, pre ++ [(qq, .slice ca cn cc)], ⟨?_, by rw [List.length_append, JX.out.2]; rfl⟩, J6.out⟩, by simp [intOf]; omega⟩
    rw [List.map_append, JX.out.1, List.take_add_one, List.getElem?_map, HXt.out]; rfl
 ·have hte : t = L.length := by omega
  subst hte
  refine wp_seq_k fun K7 hK7 => rgn ?_
  refine VlS (.bool false) ?_
  refine WL.nil (hK7 _ _ ?_)
  refine wp_seq_k fun K8 hK8 => ?_
  refine wp_cond_false rfl ?_
  refine wp_exit ?_
  simp only [Exit.inBlock, Exit.then, eq_self, if_true]
  go_end0
  exact ⟨⟨_, rfl⟩, pre, by rw [JX.out.1, List.take_of_length_le (by rw [List.length_map]; exact Nat.le_refl _)], JJ.out⟩
theorem nextW_like {c d : Nat → Int} {t : Nat} (ht : 16 ≤ t) (h : ∀ i, i < t → c i = d i) : nextW c t = nextW d t := by
 unfold nextW; rw [h (t - 16) (by omega), h (t - 15) (by omega), h (t - 7) (by omega), h (t - 2) (by omega)]
theorem be32_like {c d : Nat → Int} {t : Nat} (ht : t < 16) (h : ∀ i, i < 64 → c i = d i) : be32 c t = be32 d t := by
 unfold be32; rw [h (4 * t) (by omega), h (4 * t + 1) (by omega), h (4 * t + 2) (by omega), h (4 * t + 3) (by omega)]
def rL (r : R8) : List Int := [r.a, r.b, r.c, r.d, r.e, r.f, r.g, r.h]
def rOf (l : List Int) : R8 := r8 (fun i => l.getD i 0)
theorem rOf_L (r : R8) : rOf (rL r) = r := rfl
structure STab (S B W : List Int) (R : List (List Int)) (O : List Int) : Prop where
 w : ∀ t : Fin 64, (if t.val < 16 then be32 (fun i => B.getD i 0) t.val else nextW (fun i => W.getD i 0) t.val) = W.getD t.val 0
 r : ∀ t : Fin 64, rL (stepF (roundsF t.val) (W.getD t.val 0) (rOf (R.getD t.val []))) = R.getD (t.val + 1) []
 r0 : rL (rOf S) = R.getD 0 []
 o : ∀ i : Fin 8, outF (fun i => S.getD i 0) (rOf (R.getD 64 [])) i.val = O.getD i.val 0
theorem STab.sch {S B W : List Int} {R : List (List Int)} {O : List Int} (h : STab S B W R O) (p : Nat → Int) (hp : ∀ i, i < 64 → p i = B.getD i 0) (t : Nat) (ht : t ≤ 64) : ∀ i, i < t → sched p t i = W.getD i 0 := by
 induction t with
 | zero => intro i h; omega
 | succ t ih =>
  intro i hi
  simp only [sched, upd]
  by_cases e : i = t
  ·subst e
   rw [if_pos rfl, ← h.w ⟨i, by omega⟩]
   by_cases h16 : i < 16
   ·rw [if_pos h16, if_pos h16]; exact be32_like h16 hp
   ·rw [if_neg h16, if_neg h16]; exact nextW_like (by omega) (fun j hj => ih (by omega) j hj)
  ·rw [if_neg e]; exact ih (by omega) i (by omega)
theorem r8_like {c d : Nat → Int} (h : ∀ i, i < 8 → c i = d i) : r8 c = r8 d := by
 unfold r8; rw [h 0 (by omega), h 1 (by omega), h 2 (by omega), h 3 (by omega), h 4 (by omega), h 5 (by omega), h 6 (by omega), h 7 (by omega)]
theorem outF_like {c d : Nat → Int} (h : ∀ i, i < 8 → c i = d i) (r : R8) : outF c r = outF d r := by
 funext i; unfold outF; rw [h 0 (by omega), h 1 (by omega), h 2 (by omega), h 3 (by omega), h 4 (by omega), h 5 (by omega), h 6 (by omega), h 7 (by omega)]
theorem STab.run {S B W : List Int} {R : List (List Int)} {O : List Int} (h : STab S B W R O) (s : Nat → Int) (hs : ∀ i, i < 8 → s i = S.getD i 0) (ww : Nat → Int) (hw : ∀ i, i < 64 → ww i = W.getD i 0) (t : Nat) (ht : t ≤ 64) : rL (runF roundsF ww (r8 s) t) = R.getD t [] := by
 induction t with
 | zero => rw [← h.r0]; show rL (r8 s) = rL (rOf S); rw [show r8 s = rOf S from r8_like hs]
 | succ t ih =>
  simp only [runF]
  rw [← h.r ⟨t, by omega⟩, ← ih (by omega), rOf_L, hw t (by omega)]
theorem STab.mix {S B W : List Int} {R : List (List Int)} {O : List Int} (h : STab S B W R O) (s : Nat → Int) (hs : ∀ i, i < 8 → s i = S.getD i 0) (p : Nat → Int) (hp : ∀ i, i < 64 → p i = B.getD i 0) : ∀ i, i < 8 → mixF s p i = O.getD i 0 := by
 intro i hi
 have h1 := h.run s hs (sched p 64) (h.sch p hp 64 (Nat.le_refl _)) 64 (Nat.le_refl _)
 unfold mixF
 rw [← rOf_L (runF roundsF (sched p 64) (r8 s) 64), h1, outF_like hs]
 exact h.o ⟨i, hi⟩
def piece0 (C : List Int) : Nat → Int := putN (putN (fun _ => 0) 0 C.length fun i => C.getD i 0) C.length (64 - C.length) (endX C.length)
theorem sha_one (C : List Int) (hC : C.length ≤ 55) : shaP C = layUp (mixF beginF (piece0 C)) 8 := by
 have h2 : absorbL dg0 C = ⟨beginF, putN (fun _ => 0) 0 C.length (fun i => C.getD i 0), C.length⟩ := by
  rw [← absorbN_all, absorb_chunk dg0 _ C.length (by show 0 % 64 + C.length ≤ 64; omega)]
  rw [if_neg (by show ¬ 0 % 64 + C.length = 64; omega)]
  simp [dg0]
 have hz : zerosF C.length + 9 = 64 - C.length := by unfold zerosF; omega
 have hm : C.length % 64 = C.length := by omega
 unfold shaP sumF
 rw [h2]
 dsimp only
 rw [hz, absorb_chunk _ _ (64 - C.length) (by dsimp only; omega)]
 dsimp only
 rw [hm, if_pos (by omega)]
 rfl
theorem layUp_like {c d : Nat → Int} (h : ∀ i, i < 8 → c i = d i) (t : Nat) (ht : t ≤ 8) : layUp c t = layUp d t := by
 induction t with
 | zero => rfl
 | succ t ih => simp only [layUp]; rw [ih (by omega), h t (by omega)]
def abS : List Int := [1779033703, 3144134277, 1013904242, 2773480762, 1359893119, 2600822924, 528734635, 1541459225]
theorem ab_b : ∀ i : Fin 8, beginF i.val = abS.getD i.val 0 := by decide +kernel
end Go.Proofs.YtlggejehaonkcaaDoor
