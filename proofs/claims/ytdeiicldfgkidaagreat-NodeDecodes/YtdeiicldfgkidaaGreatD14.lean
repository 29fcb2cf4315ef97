import Derived.Test.YtdeiicldfgkidaaGreatD13
import Derived.Test.YtdeiicldfgkidaaGreatD11
import Derived.Test.YtdeiicldfgkidaaGreatD01
import Derived.Test.YtdeiicldfgkidaaGreatD10
import Derived.Test.YtdeiicldfgkidaaGreatD02
import Derived.Deep.RegionHeld3
namespace Go.Proofs.YtdeiicldfgkidaaGreat
open Go.RowKit
set_option linter.unusedSimpArgs false
set_option linter.unusedVariables false

def smL (a b : List OpV) : Bool := decide (a.length = b.length) && (List.range a.length).all fun i => sm (a.getD i zeroOp) (b.getD i zeroOp)
def sameN (A B : NodeV) : Bool := decide (A.au = B.au) && (decide (A.ck = B.ck) && (decide (A.ps = B.ps) && smL A.ops B.ops))
theorem sameN_refl (A : NodeV) : sameN A A = true := by simp [sameN, smL, sm_refl]
theorem ps_eq {a b : List Hs} (h : a.length = b.length) (he : ∀ i, i < a.length → a.getD i default = b.getD i default) : a = b := List.ext_getElem h fun i h1 h2 => by
 have := he i h1
 rwa [show a.getD i default = a[i] by simp [List.getD_eq_getElem?_getD, h1], show b.getD i default = b[i] by simp [List.getD_eq_getElem?_getD, h2]] at this
theorem neqH_run (x y : Hs) (b : Bool) (h : decide (x = y) = b) (w : World) : (binOp .neq 41 (.agg (Sh.encH x).toArray) (.agg (Sh.encH y).toArray)).run Tryz.prog w = .ok (.bool (!b)) w := by
 rw [Sh.run_neqL, h]
theorem HRow.elem {w : World} {a : Option Addr} {n c : Nat} {l : List Hs} (h : Sh.HRow w (.slice a n c) l) {t : Nat} (ht : t < l.length) : ∃ b off, a = some ⟨b, off, none⟩ ∧ ∀ wx, Below w.heap.size w wx → wx.rangeAt b (off + t * 32) (Sh.encH (l.getD t default)) := by
 obtain ⟨b, off, h1, h2, h3, h4⟩ := h.at (by omega)
 refine ⟨b, off, h1, fun wx hb => ?_⟩
 have h5 := Sh.rangeAt_elem (Sh.rangeAt_below h4 hb (Sh.rangeAt_lt h4 (by omega))) t ht
 rwa [show l.getD t default = l[t] by simp [List.getD_eq_getElem?_getD, ht]]
theorem Tryz.in9 (w : World) (vs : Array Value) : (callFunc 9 vs).run Tryz.prog w = .ok (.enter 9 vs) w := by kernel_rfl
set_option maxRecDepth 8000 in
set_option maxHeartbeats 4000000 in
theorem rsame_node (A B : NodeV) (vp vo vq vr : Value) (w : World) (hA : NdAt w A vp vo) (hB : NdAt w B vq vr) : Calls Tryz.prog 9 #[.agg (ndA A.au A.ck vp vo), .agg (ndA B.au B.ck vq vr)] w fun e w' => e = .returned (.bool (sameN A B)) ∧ Below w.heap.size w w' := by
 obtain ⟨pa, pc, rfl⟩ := hA.ps.form
 obtain ⟨oa, oc, rfl⟩ := hA.ops.form
 obtain ⟨pb, pd, rfl⟩ := hB.ps.form
 obtain ⟨ob, od, rfl⟩ := hB.ops.form
 have HA := Keep.mk hA
 have HB := Keep.mk hB
 clear hA hB
 go_enter Tryz.func9, Tryz.ntmps9
 refine wp_seq_k fun K1 hK1 => rgn ?_
 refine WL.box (by kernel_rfl) 28 (.tmp 0) rfl _ rfl ?_
 have HX0 := Keep.mk (Blk.new w 28 (ndA A.au A.ck (.slice pa A.ps.length pc) (.slice oa A.ops.length oc)))
 have B0 := Keep.mk (below_new w (.cells (ndA A.au A.ck (.slice pa A.ps.length pc) (.slice oa A.ops.length oc)) 28))
 generalize w.alloc (.cells (ndA A.au A.ck (.slice pa A.ps.length pc) (.slice oa A.ops.length oc)) 28) = w1 at *
 have B0x : Keep (w.heap.size ≤ w1.heap.size) := ⟨B0.out.size⟩
 generalize hgg : w.heap.size = g at *
 simp only [Act.put, pqA, pqB, pqC]
 refine WL.box (by kernel_rfl) 28 (.tmp 1) rfl _ rfl ?_
 have HXa := Keep.mk (HX0.out.alloc (.cells (ndA B.au B.ck (.slice pb B.ps.length pd) (.slice ob B.ops.length od)) 28))
 have HXb := Keep.mk (Blk.new w1 28 (ndA B.au B.ck (.slice pb B.ps.length pd) (.slice ob B.ops.length od)))
 have B2 : Keep (Below g w (w1.alloc (.cells (ndA B.au B.ck (.slice pb B.ps.length pd) (.slice ob B.ops.length od)) 28))) := ⟨B0.out.trans ((below_new w1 _).mono B0x.out)⟩
 generalize w1.alloc (.cells (ndA B.au B.ck (.slice pb B.ps.length pd) (.slice ob B.ops.length od)) 28) = w2 at *
 have HA2 := Keep.mk (HA.out.below (by rw [hgg]; exact B2.out))
 have HB2 := Keep.mk (HB.out.below (by rw [hgg]; exact B2.out))
 have B2x : Keep (g ≤ w2.heap.size) := ⟨by have := B2.out.size; omega⟩
 generalize w1.heap.size = k at *
 have a0 := HXa.out.c 0 (nd_0 _ _ _ _)
 have a1 := HXa.out.c 1 (nd_1 _ _ _ _)
 have a2 := HXa.out.c 2 (nd_2 _ _ _ _)
 have a3 := HXa.out.c 3 (nd_3 _ _ _ _)
 have b0 := HXb.out.c 0 (nd_0 _ _ _ _)
 have b1 := HXb.out.c 1 (nd_1 _ _ _ _)
 have b2 := HXb.out.c 2 (nd_2 _ _ _ _)
 have b3 := HXb.out.c 3 (nd_3 _ _ _ _)
 simp only [Act.put, pqA, pqB, pqC]
 refine VlS (.bool false) ?_
 refine WL.nil (hK1 _ _ ?_)
 refine wp_seq_k fun K2 hK2 => ?_
 refine wp_seq_k fun K3 hK3 => rgn ?_
 refine VlS (.pointer (some ⟨g, 0, none⟩)) ?_
 refine VlS (.int .i64 A.au) ?_
 refine VlS (.pointer (some ⟨k, 0, none⟩)) ?_
 refine VlS (.int .i64 B.au) ?_
 by_cases h1_4 : A.au = B.au
 ·skip
  refine VlS (.bool false) ?_
  refine VlS (.bool false) ?_
  refine VlS (.pointer (some ⟨g, 1, none⟩)) ?_
  refine VlS (.int .i64 A.ck) ?_
  refine VlS (.pointer (some ⟨k, 1, none⟩)) ?_
  refine VlS (.int .i64 B.ck) ?_
  by_cases h1_10 : A.ck = B.ck
  ·skip
   refine VlS (.bool false) ?_
   refine VlS (.bool false) ?_
   refine VlS (.bool false) ?_
   refine VlS (.pointer (some ⟨g, 2, none⟩)) ?_
   refine VlS (.slice pa A.ps.length pc) ?_
   refine VlS (.int .i64 (A.ps.length : Int)) ?_
   refine VlS (.pointer (some ⟨k, 2, none⟩)) ?_
   refine VlS (.slice pb B.ps.length pd) ?_
   refine VlS (.int .i64 (B.ps.length : Int)) ?_
   by_cases h1_19 : A.ps.length = B.ps.length
   ·have h1_19i : (A.ps.length : Int) = (B.ps.length : Int) := by omega
    refine VlS (.bool false) ?_
    refine VlS (.bool false) ?_
    refine VlS (.bool false) ?_
    refine VlS (.pointer (some ⟨g, 3, none⟩)) ?_
    refine VlS (.slice oa A.ops.length oc) ?_
    refine VlS (.int .i64 (A.ops.length : Int)) ?_
    refine VlS (.pointer (some ⟨k, 3, none⟩)) ?_
    refine VlS (.slice ob B.ops.length od) ?_
    refine VlS (.int .i64 (B.ops.length : Int)) ?_
    by_cases h1_28 : A.ops.length = B.ops.length
    ·have h1_28i : (A.ops.length : Int) = (B.ops.length : Int) := by omega
     refine VlS (.bool false) ?_
     refine VlS (.bool false) ?_
     refine WL.nil (hK3 _ _ ?_)
     refine wp_cond_false rfl ?_
     refine wp_skip ?_
     refine hK2 _ _ ?_
     refine wp_seq_k fun K4 hK4 => ?_
     refine wp_seq_k fun K5 hK5 => rgn ?_
     refine VlS (.int .i64 0) ?_
     refine WL.nil (hK5 _ _ ?_)
     refine wp_block ?_
     refine wp_loop (fun ac wr => ∃ (t : Nat) (u4 u37 u38 u39 u40 u41 u42 u43 u44 u45 u46 u47 u48 u49 u50 u51 u52 u53 u54 : Value), ac = { tmps := #[.agg (ndA A.au A.ck (.slice pa A.ps.length pc) (.slice oa A.ops.length oc)), .agg (ndA B.au B.ck (.slice pb B.ps.length pd) (.slice ob B.ops.length od)), .pointer (some ⟨g, 0, none⟩), .pointer (some ⟨k, 0, none⟩), u4, .int .i64 (t : Int), undef, .pointer (some ⟨g, 0, none⟩), .int .i64 A.au, .pointer (some ⟨k, 0, none⟩), .int .i64 B.au, .bool false, .bool false, .pointer (some ⟨g, 1, none⟩), .int .i64 A.ck, .pointer (some ⟨k, 1, none⟩), .int .i64 B.ck, .bool false, .bool false, .bool false, .pointer (some ⟨g, 2, none⟩), .slice pa A.ps.length pc, .int .i64 (A.ps.length : Int), .pointer (some ⟨k, 2, none⟩), .slice pb B.ps.length pd, .int .i64 (B.ps.length : Int), .bool false, .bool false, .bool false, .pointer (some ⟨g, 3, none⟩), .slice oa A.ops.length oc, .int .i64 (A.ops.length : Int), .pointer (some ⟨k, 3, none⟩), .slice ob B.ops.length od, .int .i64 (B.ops.length : Int), .bool false, .bool false, u37, u38, u39, u40, u41, u42, u43, u44, u45, u46, u47, u48, u49, u50, u51, u52, u53, u54, undef, undef, undef, undef, undef, undef, undef, undef, undef, undef, undef, undef, undef, undef, undef, undef, undef, undef, undef], defers := [] } ∧ t ≤ A.ps.length ∧ (∀ i, i < t → A.ps.getD i default = B.ps.getD i default) ∧ Below w2.heap.size w2 wr) (fun a _ => A.ps.length - (intOf (a.tmps.getD 5 undef)).toNat) ⟨0, .bool false, undef, undef, undef, undef, undef, undef, undef, undef, undef, undef, undef, undef, undef, undef, undef, undef, undef, undef, rfl, by omega, (fun i hi => by omega), Below.refl _ _⟩ ?_
     rintro ac wr ⟨t, u4, u37, u38, u39, u40, u41, u42, u43, u44, u45, u46, u47, u48, u49, u50, u51, u52, u53, u54, rfl, ht, hE, hB⟩
     have a2 := (HXa.out.below hB HXa.out.lt).c 2 (nd_2 _ _ _ _)
     by_cases htl : t < A.ps.length
     ·have htl' : (t : Int) < (A.ps.length : Int) := by omega
      have hwr1 : IntKind.i64.wrap ((t : Int) + 1) = (t : Int) + 1 := by rw [IntKind.wrap_i64]; have := HA.out.lp; omega
      have htb : t < B.ps.length := by omega
      obtain ⟨ga, fa, rfl, hea⟩ := HRow.elem (HA2.out.below hB).ps htl
      obtain ⟨gb, fb, rfl, heb⟩ := HRow.elem (HB2.out.below hB).ps htb
      obtain ⟨x, hx⟩ : ∃ x, x = A.ps.getD t default := ⟨_, rfl⟩
      obtain ⟨y, hy⟩ : ∃ y, y = B.ps.getD t default := ⟨_, rfl⟩
      rw [← hx] at hea
      rw [← hy] at heb
      have htb' : (t : Int) < (B.ps.length : Int) := by omega
      have HS0 : Keep (∀ wx, Below wr.heap.size wr wx → wx.cell? ⟨g, 2, none⟩ = some (.slice (some ⟨ga, fa, none⟩) A.ps.length pc) ∧ wx.cell? ⟨k, 2, none⟩ = some (.slice (some ⟨gb, fb, none⟩) B.ps.length pd) ∧ wx.rangeAt ga (fa + t * 32) (Sh.encH x) ∧ wx.rangeAt gb (fb + t * 32) (Sh.encH y)) := ⟨fun wx hb => ⟨((HXa.out.below hB HXa.out.lt).below hb (HXa.out.below hB HXa.out.lt).lt).c 2 (nd_2 _ _ _ _), ((HXb.out.below hB HXb.out.lt).below hb (HXb.out.below hB HXb.out.lt).lt).c 2 (nd_2 _ _ _ _), hea wx hb, heb wx hb⟩⟩
      have Jx := Keep.mk hx
      have Jy := Keep.mk hy
      have JB := Keep.mk hB
      have JE := Keep.mk hE
      clear hea heb hx hy hB hE
      refine wp_seq_k fun K6 hK6 => ?_
      refine wp_seq_k fun K7 hK7 => rgn ?_
      refine VlS (.int .i64 (t : Int)) ?_
      refine VlS (.pointer (some ⟨g, 2, none⟩)) ?_
      refine VlS (.slice (some ⟨ga, fa, none⟩) A.ps.length pc) ?_
      refine VlS (.int .i64 (A.ps.length : Int)) ?_
      refine VlS (.bool true) ?_
      refine WL.nil (hK7 _ _ ?_)
      refine wp_cond_true rfl ?_
      refine wp_skip ?_
      refine hK6 _ _ ?_
      refine wp_seq_k fun K8 hK8 => ?_
      refine wp_block ?_
      refine wp_seq_k fun K9 hK9 => ?_
      have hD0 : Below wr.heap.size wr wr.drew := (Below.refl _ _).drew
      clear a2
      by_cases hxy : x = y
      ·have hnq := neqH_run x y true (decide_eq_true hxy)
       have Hxy := Keep.mk hxy
       clear hxy
       refine wp_region_held_drew (S := fun wx => wx.cell? ⟨g, 2, none⟩ = some (.slice (some ⟨ga, fa, none⟩) A.ps.length pc) ∧ wx.cell? ⟨k, 2, none⟩ = some (.slice (some ⟨gb, fb, none⟩) B.ps.length pd) ∧ wx.rangeAt ga (fa + t * 32) (Sh.encH x) ∧ wx.rangeAt gb (fb + t * 32) (Sh.encH y)) (by kernel_rfl) (HS0.out _ hD0) (fun hHeld => ?_)
       refine tkS (i := 0) (oi := ⟨some 44, Op.fieldAddr 28 (Operand.tmp 2) 2, 0, _, _, none⟩) (v := .pointer (some ⟨g, 2, none⟩)) rfl (Or.inl ⟨by rfl, fun w hS => by obtain ⟨hs1, hs2, hs3, hs4⟩ := hS; go_simp⟩) hHeld ?_
       refine tkS (i := 1) (oi := ⟨some 45, Op.load 25 (Operand.tmp 44), 25, _, _, none⟩) (v := .slice (some ⟨ga, fa, none⟩) A.ps.length pc) rfl (Or.inl ⟨by rfl, fun w hS => by obtain ⟨hs1, hs2, hs3, hs4⟩ := hS; go_simp⟩) hHeld ?_
       refine tkS (i := 2) (oi := ⟨some 46, Op.move (Operand.tmp 5), 3, _, _, none⟩) (v := .int .i64 (t : Int)) rfl (Or.inl ⟨by rfl, fun w hS => by obtain ⟨hs1, hs2, hs3, hs4⟩ := hS; go_simp⟩) hHeld ?_
       refine tkS (i := 3) (oi := ⟨some 47, Op.indexAddr 25 (Operand.tmp 45) (Operand.tmp 46), 0, _, _, none⟩) (v := .pointer (some ⟨ga, fa + t * 32, none⟩)) rfl (Or.inl ⟨by rfl, fun w hS => by obtain ⟨hs1, hs2, hs3, hs4⟩ := hS; go_simp⟩) hHeld ?_
       refine tkS (i := 4) (oi := ⟨some 48, Op.load 41 (Operand.tmp 47), 41, _, _, none⟩) (v := .agg (Sh.encH x).toArray) rfl (yieldsIf_load_mid (by rfl) 41 (Operand.tmp 47) rfl ga (fa + t * 32) rfl (Sh.encH x) _ (fun w hS => hS.2.2.1) Tryz.underlying41 rfl (Tryz.sizeHL x)) hHeld ?_
       refine tkS (i := 5) (oi := ⟨some 49, Op.fieldAddr 28 (Operand.tmp 3) 2, 0, _, _, none⟩) (v := .pointer (some ⟨k, 2, none⟩)) rfl (Or.inl ⟨by rfl, fun w hS => by obtain ⟨hs1, hs2, hs3, hs4⟩ := hS; go_simp⟩) hHeld ?_
       refine tkS (i := 6) (oi := ⟨some 50, Op.load 25 (Operand.tmp 49), 25, _, _, none⟩) (v := .slice (some ⟨gb, fb, none⟩) B.ps.length pd) rfl (Or.inl ⟨by rfl, fun w hS => by obtain ⟨hs1, hs2, hs3, hs4⟩ := hS; go_simp⟩) hHeld ?_
       refine tkS (i := 7) (oi := ⟨some 51, Op.move (Operand.tmp 5), 3, _, _, none⟩) (v := .int .i64 (t : Int)) rfl (Or.inl ⟨by rfl, fun w hS => by obtain ⟨hs1, hs2, hs3, hs4⟩ := hS; go_simp⟩) hHeld ?_
       refine tkS (i := 8) (oi := ⟨some 52, Op.indexAddr 25 (Operand.tmp 50) (Operand.tmp 51), 0, _, _, none⟩) (v := .pointer (some ⟨gb, fb + t * 32, none⟩)) rfl (Or.inl ⟨by rfl, fun w hS => by obtain ⟨hs1, hs2, hs3, hs4⟩ := hS; go_simp⟩) hHeld ?_
       refine tkS (i := 9) (oi := ⟨some 53, Op.load 41 (Operand.tmp 52), 41, _, _, none⟩) (v := .agg (Sh.encH y).toArray) rfl (yieldsIf_load_mid (by rfl) 41 (Operand.tmp 52) rfl gb (fb + t * 32) rfl (Sh.encH y) _ (fun w hS => hS.2.2.2) Tryz.underlying41 rfl (Tryz.sizeHL y)) hHeld ?_
       refine tkS (i := 10) (oi := ⟨some 54, Op.binOp BinOp.neq 41 (Operand.tmp 48) (Operand.tmp 53) 41, 4, _, _, none⟩) (v := .bool false) rfl (Or.inl ⟨by rfl, fun w hS => by have hnq' := hnq w; go_simp⟩) hHeld ?_
       refine wpAnyH_done (by kernel_rfl) ?_ _
       refine hK9 _ _ ?_
       refine wp_cond_false rfl ?_
       refine wp_skip ?_
       refine hK8 _ _ ?_
       refine rgn ?_
       refine VlS (.int .i64 (t : Int)) ?_
       refine VlS (.int .i64 ((t : Int) + 1)) ?_
       refine VlS (.int .i64 ((t : Int) + 1)) ?_
       refine WL.nil ?_
       refine ⟨⟨t + 1, u4, .int .i64 (t : Int), .pointer (some ⟨g, 2, none⟩), .slice (some ⟨ga, fa, none⟩) A.ps.length pc, .int .i64 (A.ps.length : Int), .bool true, .int .i64 (t : Int), .int .i64 ((t : Int) + 1), .pointer (some ⟨g, 2, none⟩), .slice (some ⟨ga, fa, none⟩) A.ps.length pc, .int .i64 (t : Int), .pointer (some ⟨ga, fa + t * 32, none⟩), .agg (Sh.encH x).toArray, .pointer (some ⟨k, 2, none⟩), .slice (some ⟨gb, fb, none⟩) B.ps.length pd, .int .i64 (t : Int), .pointer (some ⟨gb, fb + t * 32, none⟩), .agg (Sh.encH y).toArray, .bool false, rfl, by omega, fun i hi => ?_, JB.out.trans (hD0.mono JB.out.size)⟩, ?_⟩
       ·by_cases hit : i < t
        ·exact JE.out i hit
        ·rw [show i = t by omega, ← Jx.out, ← Jy.out]; exact Hxy.out
       ·simp only [intOf]; show A.ps.length - ((t : Int) + 1).toNat < A.ps.length - ((t : Int)).toNat; omega
      ·have hnq := neqH_run x y false (decide_eq_false hxy)
       have Hxy := Keep.mk hxy
       clear hxy
       refine wp_region_held_drew (S := fun wx => wx.cell? ⟨g, 2, none⟩ = some (.slice (some ⟨ga, fa, none⟩) A.ps.length pc) ∧ wx.cell? ⟨k, 2, none⟩ = some (.slice (some ⟨gb, fb, none⟩) B.ps.length pd) ∧ wx.rangeAt ga (fa + t * 32) (Sh.encH x) ∧ wx.rangeAt gb (fb + t * 32) (Sh.encH y)) (by kernel_rfl) (HS0.out _ hD0) (fun hHeld => ?_)
       refine tkS (i := 0) (oi := ⟨some 44, Op.fieldAddr 28 (Operand.tmp 2) 2, 0, _, _, none⟩) (v := .pointer (some ⟨g, 2, none⟩)) rfl (Or.inl ⟨by rfl, fun w hS => by obtain ⟨hs1, hs2, hs3, hs4⟩ := hS; go_simp⟩) hHeld ?_
       refine tkS (i := 1) (oi := ⟨some 45, Op.load 25 (Operand.tmp 44), 25, _, _, none⟩) (v := .slice (some ⟨ga, fa, none⟩) A.ps.length pc) rfl (Or.inl ⟨by rfl, fun w hS => by obtain ⟨hs1, hs2, hs3, hs4⟩ := hS; go_simp⟩) hHeld ?_
       refine tkS (i := 2) (oi := ⟨some 46, Op.move (Operand.tmp 5), 3, _, _, none⟩) (v := .int .i64 (t : Int)) rfl (Or.inl ⟨by rfl, fun w hS => by obtain ⟨hs1, hs2, hs3, hs4⟩ := hS; go_simp⟩) hHeld ?_
       refine tkS (i := 3) (oi := ⟨some 47, Op.indexAddr 25 (Operand.tmp 45) (Operand.tmp 46), 0, _, _, none⟩) (v := .pointer (some ⟨ga, fa + t * 32, none⟩)) rfl (Or.inl ⟨by rfl, fun w hS => by obtain ⟨hs1, hs2, hs3, hs4⟩ := hS; go_simp⟩) hHeld ?_
       refine tkS (i := 4) (oi := ⟨some 48, Op.load 41 (Operand.tmp 47), 41, _, _, none⟩) (v := .agg (Sh.encH x).toArray) rfl (yieldsIf_load_mid (by rfl) 41 (Operand.tmp 47) rfl ga (fa + t * 32) rfl (Sh.encH x) _ (fun w hS => hS.2.2.1) Tryz.underlying41 rfl (Tryz.sizeHL x)) hHeld ?_
       refine tkS (i := 5) (oi := ⟨some 49, Op.fieldAddr 28 (Operand.tmp 3) 2, 0, _, _, none⟩) (v := .pointer (some ⟨k, 2, none⟩)) rfl (Or.inl ⟨by rfl, fun w hS => by obtain ⟨hs1, hs2, hs3, hs4⟩ := hS; go_simp⟩) hHeld ?_
       refine tkS (i := 6) (oi := ⟨some 50, Op.load 25 (Operand.tmp 49), 25, _, _, none⟩) (v := .slice (some ⟨gb, fb, none⟩) B.ps.length pd) rfl (Or.inl ⟨by rfl, fun w hS => by obtain ⟨hs1, hs2, hs3, hs4⟩ := hS; go_simp⟩) hHeld ?_
       refine tkS (i := 7) (oi := ⟨some 51, Op.move (Operand.tmp 5), 3, _, _, none⟩) (v := .int .i64 (t : Int)) rfl (Or.inl ⟨by rfl, fun w hS => by obtain ⟨hs1, hs2, hs3, hs4⟩ := hS; go_simp⟩) hHeld ?_
       refine tkS (i := 8) (oi := ⟨some 52, Op.indexAddr 25 (Operand.tmp 50) (Operand.tmp 51), 0, _, _, none⟩) (v := .pointer (some ⟨gb, fb + t * 32, none⟩)) rfl (Or.inl ⟨by rfl, fun w hS => by obtain ⟨hs1, hs2, hs3, hs4⟩ := hS; go_simp⟩) hHeld ?_
       refine tkS (i := 9) (oi := ⟨some 53, Op.load 41 (Operand.tmp 52), 41, _, _, none⟩) (v := .agg (Sh.encH y).toArray) rfl (yieldsIf_load_mid (by rfl) 41 (Operand.tmp 52) rfl gb (fb + t * 32) rfl (Sh.encH y) _ (fun w hS => hS.2.2.2) Tryz.underlying41 rfl (Tryz.sizeHL y)) hHeld ?_
       refine tkS (i := 10) (oi := ⟨some 54, Op.binOp BinOp.neq 41 (Operand.tmp 48) (Operand.tmp 53) 41, 4, _, _, none⟩) (v := .bool true) rfl (Or.inl ⟨by rfl, fun w hS => by have hnq' := hnq w; go_simp⟩) hHeld ?_
       refine wpAnyH_done (by kernel_rfl) ?_ _
       refine hK9 _ _ ?_
       refine wp_cond_true rfl ?_
       refine wp_seq_k fun K10 hK10 => rgn ?_
       refine VlS (.bool false) ?_
       refine WL.nil (hK10 _ _ ?_)
       refine wp_ret ?_
       go_ret
       have hno : sameN A B = false := by
        have : A.ps ≠ B.ps := fun e => Hxy.out (by rw [Jx.out, Jy.out, e])
        simp [sameN, this]
       exact ⟨by rw [hno]; rfl, B2.out.trans ((JB.out.mono B2x.out).trans ((Below.refl _ _).drew.mono (Nat.le_trans B2x.out JB.out.size)))⟩
     ·have htl' : ¬ (t : Int) < (A.ps.length : Int) := by omega
      have hle2 : B.ps.length ≤ t := by omega
      have hpe : Keep (A.ps = B.ps) := ⟨ps_eq h1_19 (fun i hi => hE i (by omega))⟩
      have JB := Keep.mk hB
      clear hB hE
      refine wp_seq_k fun K11 hK11 => ?_
      refine wp_seq_k fun K12 hK12 => rgn ?_
      refine VlS (.int .i64 (t : Int)) ?_
      refine VlS (.pointer (some ⟨g, 2, none⟩)) ?_
      refine VlS (.slice pa A.ps.length pc) ?_
      refine VlS (.int .i64 (A.ps.length : Int)) ?_
      refine VlS (.bool false) ?_
      refine WL.nil (hK12 _ _ ?_)
      refine wp_cond_false rfl ?_
      refine wp_exit ?_
      refine hK4 _ _ ?_
      refine wp_seq_k fun K13 hK13 => ?_
      refine wp_seq_k fun K14 hK14 => rgn ?_
      refine VlS (.int .i64 0) ?_
      refine WL.nil (hK14 _ _ ?_)
      refine wp_block ?_
      refine wp_loop (fun ac wq => ∃ (u : Nat) (y4 y55 y56 y57 y58 y59 y60 y61 y62 y63 y64 y65 y66 y67 y68 y69 y70 y71 y72 y73 : Value), ac = { tmps := #[.agg (ndA A.au A.ck (.slice pa A.ps.length pc) (.slice oa A.ops.length oc)), .agg (ndA B.au B.ck (.slice pb B.ps.length pd) (.slice ob B.ops.length od)), .pointer (some ⟨g, 0, none⟩), .pointer (some ⟨k, 0, none⟩), y4, .int .i64 (t : Int), .int .i64 (u : Int), .pointer (some ⟨g, 0, none⟩), .int .i64 A.au, .pointer (some ⟨k, 0, none⟩), .int .i64 B.au, .bool false, .bool false, .pointer (some ⟨g, 1, none⟩), .int .i64 A.ck, .pointer (some ⟨k, 1, none⟩), .int .i64 B.ck, .bool false, .bool false, .bool false, .pointer (some ⟨g, 2, none⟩), .slice pa A.ps.length pc, .int .i64 (A.ps.length : Int), .pointer (some ⟨k, 2, none⟩), .slice pb B.ps.length pd, .int .i64 (B.ps.length : Int), .bool false, .bool false, .bool false, .pointer (some ⟨g, 3, none⟩), .slice oa A.ops.length oc, .int .i64 (A.ops.length : Int), .pointer (some ⟨k, 3, none⟩), .slice ob B.ops.length od, .int .i64 (B.ops.length : Int), .bool false, .bool false, .int .i64 (t : Int), .pointer (some ⟨g, 2, none⟩), .slice pa A.ps.length pc, .int .i64 (A.ps.length : Int), .bool false, u42, u43, u44, u45, u46, u47, u48, u49, u50, u51, u52, u53, u54, y55, y56, y57, y58, y59, y60, y61, y62, y63, y64, y65, y66, y67, y68, y69, y70, y71, y72, y73], defers := [] } ∧ u ≤ A.ops.length ∧ (∀ i, i < u → sm (A.ops.getD i zeroOp) (B.ops.getD i zeroOp) = true) ∧ Below w2.heap.size w2 wq) (fun a _ => A.ops.length - (intOf (a.tmps.getD 6 undef)).toNat) ⟨0, u4, undef, undef, undef, undef, undef, undef, undef, undef, undef, undef, undef, undef, undef, undef, undef, undef, undef, undef, undef, rfl, by omega, (fun i hi => by omega), JB.out⟩ ?_
      rintro ac wq ⟨u, y4, y55, y56, y57, y58, y59, y60, y61, y62, y63, y64, y65, y66, y67, y68, y69, y70, y71, y72, y73, rfl, hu, hF, hC⟩
      have a3 := (HXa.out.below hC HXa.out.lt).c 3 (nd_3 _ _ _ _)
      by_cases hul : u < A.ops.length
      ·have hul' : (u : Int) < (A.ops.length : Int) := by omega
       have hwr2 : IntKind.i64.wrap ((u : Int) + 1) = (u : Int) + 1 := by rw [IntKind.wrap_i64]; have := HA.out.lo; omega
       have hub : u < B.ops.length := by omega
       obtain ⟨ga, fa, rfl, hea⟩ := (HA2.out.below hC).ops.at hul
       obtain ⟨gb, fb, rfl, heb⟩ := (HB2.out.below hC).ops.at hub
       obtain ⟨x, hx⟩ : ∃ x, x = A.ops.getD u zeroOp := ⟨_, rfl⟩
       obtain ⟨y, hy⟩ : ∃ y, y = B.ops.getD u zeroOp := ⟨_, rfl⟩
       rw [← hx] at hea
       rw [← hy] at heb
       have hub' : (u : Int) < (B.ops.length : Int) := by omega
       have HS0 : Keep (∀ wx, Below wq.heap.size wq wx → wx.cell? ⟨g, 3, none⟩ = some (.slice (some ⟨ga, fa, none⟩) A.ops.length oc) ∧ wx.cell? ⟨k, 3, none⟩ = some (.slice (some ⟨gb, fb, none⟩) B.ops.length od) ∧ wx.rangeAt ga (fa + u * 37) (opL x) ∧ wx.rangeAt gb (fb + u * 37) (opL y)) := ⟨fun wx hb => ⟨((HXa.out.below hC HXa.out.lt).below hb (HXa.out.below hC HXa.out.lt).lt).c 3 (nd_3 _ _ _ _), ((HXb.out.below hC HXb.out.lt).below hb (HXb.out.below hC HXb.out.lt).lt).c 3 (nd_3 _ _ _ _), range_grown hea (Grown.below (S := fun _ => False) hb) (fun h => h), range_grown heb (Grown.below (S := fun _ => False) hb) (fun h => h)⟩⟩
       have Jx := Keep.mk hx
       have Jy := Keep.mk hy
       have JC := Keep.mk hC
       have JF := Keep.mk hF
       clear hea heb hx hy hC hF
       refine wp_seq_k fun K15 hK15 => ?_
       refine wp_seq_k fun K16 hK16 => rgn ?_
       refine VlS (.int .i64 (u : Int)) ?_
       refine VlS (.pointer (some ⟨g, 3, none⟩)) ?_
       refine VlS (.slice (some ⟨ga, fa, none⟩) A.ops.length oc) ?_
       refine VlS (.int .i64 (A.ops.length : Int)) ?_
       refine VlS (.bool true) ?_
       refine WL.nil (hK16 _ _ ?_)
       refine wp_cond_true rfl ?_
       refine wp_skip ?_
       refine hK15 _ _ ?_
       refine wp_seq_k fun K17 hK17 => ?_
       refine wp_block ?_
       refine wp_seq_k fun K18 hK18 => ?_
       have hD0 : Below wq.heap.size wq wq.drew := (Below.refl _ _).drew
       clear a3
       rcases Bool.eq_false_or_eq_true (sm x y) with hxy | hxy
       ·skip
        refine wp_region_held_drew (S := fun wx => wx.cell? ⟨g, 3, none⟩ = some (.slice (some ⟨ga, fa, none⟩) A.ops.length oc) ∧ wx.cell? ⟨k, 3, none⟩ = some (.slice (some ⟨gb, fb, none⟩) B.ops.length od) ∧ wx.rangeAt ga (fa + u * 37) (opL x) ∧ wx.rangeAt gb (fb + u * 37) (opL y)) (by kernel_rfl) (HS0.out _ hD0) (fun hHeld => ?_)
        refine tkS (i := 0) (oi := ⟨some 62, Op.fieldAddr 28 (Operand.tmp 2) 3, 0, _, _, none⟩) (v := .pointer (some ⟨g, 3, none⟩)) rfl (Or.inl ⟨by rfl, fun w hS => by obtain ⟨hs1, hs2, hs3, hs4⟩ := hS; go_simp⟩) hHeld ?_
        refine tkS (i := 1) (oi := ⟨some 63, Op.load 26 (Operand.tmp 62), 26, _, _, none⟩) (v := .slice (some ⟨ga, fa, none⟩) A.ops.length oc) rfl (Or.inl ⟨by rfl, fun w hS => by obtain ⟨hs1, hs2, hs3, hs4⟩ := hS; go_simp⟩) hHeld ?_
        refine tkS (i := 2) (oi := ⟨some 64, Op.move (Operand.tmp 6), 3, _, _, none⟩) (v := .int .i64 (u : Int)) rfl (Or.inl ⟨by rfl, fun w hS => by obtain ⟨hs1, hs2, hs3, hs4⟩ := hS; go_simp⟩) hHeld ?_
        refine tkS (i := 3) (oi := ⟨some 65, Op.indexAddr 26 (Operand.tmp 63) (Operand.tmp 64), 0, _, _, none⟩) (v := .pointer (some ⟨ga, fa + u * 37, none⟩)) rfl (Or.inl ⟨by rfl, fun w hS => by obtain ⟨hs1, hs2, hs3, hs4⟩ := hS; go_simp⟩) hHeld ?_
        refine tkS (i := 4) (oi := ⟨some 66, Op.load 88 (Operand.tmp 65), 88, _, _, none⟩) (v := .agg (opL x).toArray) rfl (yieldsIf_load_mid (by rfl) 88 (Operand.tmp 65) rfl ga (fa + u * 37) rfl (opL x) _ (fun w hS => hS.2.2.1) Tryz.underlying88 rfl (Tryz.size88L x)) hHeld ?_
        refine tkS (i := 5) (oi := ⟨some 67, Op.fieldAddr 28 (Operand.tmp 3) 3, 0, _, _, none⟩) (v := .pointer (some ⟨k, 3, none⟩)) rfl (Or.inl ⟨by rfl, fun w hS => by obtain ⟨hs1, hs2, hs3, hs4⟩ := hS; go_simp⟩) hHeld ?_
        refine tkS (i := 6) (oi := ⟨some 68, Op.load 26 (Operand.tmp 67), 26, _, _, none⟩) (v := .slice (some ⟨gb, fb, none⟩) B.ops.length od) rfl (Or.inl ⟨by rfl, fun w hS => by obtain ⟨hs1, hs2, hs3, hs4⟩ := hS; go_simp⟩) hHeld ?_
        refine tkS (i := 7) (oi := ⟨some 69, Op.move (Operand.tmp 6), 3, _, _, none⟩) (v := .int .i64 (u : Int)) rfl (Or.inl ⟨by rfl, fun w hS => by obtain ⟨hs1, hs2, hs3, hs4⟩ := hS; go_simp⟩) hHeld ?_
        refine tkS (i := 8) (oi := ⟨some 70, Op.indexAddr 26 (Operand.tmp 68) (Operand.tmp 69), 0, _, _, none⟩) (v := .pointer (some ⟨gb, fb + u * 37, none⟩)) rfl (Or.inl ⟨by rfl, fun w hS => by obtain ⟨hs1, hs2, hs3, hs4⟩ := hS; go_simp⟩) hHeld ?_
        refine tkS (i := 9) (oi := ⟨some 71, Op.load 88 (Operand.tmp 70), 88, _, _, none⟩) (v := .agg (opL y).toArray) rfl (yieldsIf_load_mid (by rfl) 88 (Operand.tmp 70) rfl gb (fb + u * 37) rfl (opL y) _ (fun w hS => hS.2.2.2) Tryz.underlying88 rfl (Tryz.size88L y)) hHeld ?_
        refine wpAnyH_ready (rs := [10]) (by kernel_rfl) (by simp) ?_
        refine AllReadyH.cons (o := ⟨some 72, Op.call { callee := Callee.value (Operand.func 32), args := #[Operand.tmp 66, Operand.tmp 71], argTypes := #[88, 88] }, 4, _, _, none⟩) rfl (fun K hK => ?_) AllReadyH.nil
        rw [if_pos (by rfl)]
        refine wp_callF 32 _ _ rfl Tryz.in32 #[.agg (opA x), .agg (opA y)] (by simp [Act.eval, rng_load]) (fun vz wz => vz = .bool true ∧ Below wq.heap.size wq wz) ?_ ?_
        ·refine (rsame_any x y wq.drew).mono ?_
         rintro e wz ⟨rfl, h⟩
         rw [hxy]
         exact ⟨_, rfl, rfl, hD0.trans (h.mono hD0.size)⟩
        rintro vz w7 ⟨rfl, h7⟩
        have HB7 := Keep.mk h7
        clear h7
        refine hK.out _ _ (HS0.out _ HB7.out) fun hHeld2 => ?_
        clear hK
        simp only [Act.put, pqA, pqB, pqC]
        refine tkS (i := 11) (oi := ⟨some 73, Op.unOp UnOp.not 4 (Operand.tmp 72), 4, _, _, none⟩) (v := .bool false) rfl (Or.inl ⟨by rfl, fun w hS => by obtain ⟨hs1, hs2, hs3, hs4⟩ := hS; go_simp⟩) hHeld2 ?_
        refine wpAnyH_done (by kernel_rfl) ?_ _
        refine hK18 _ _ ?_
        refine wp_cond_false rfl ?_
        refine wp_skip ?_
        refine hK17 _ _ ?_
        refine rgn ?_
        refine VlS (.int .i64 (u : Int)) ?_
        refine VlS (.int .i64 ((u : Int) + 1)) ?_
        refine VlS (.int .i64 ((u : Int) + 1)) ?_
        refine WL.nil ?_
        refine ⟨⟨u + 1, y4, .int .i64 (u : Int), .pointer (some ⟨g, 3, none⟩), .slice (some ⟨ga, fa, none⟩) A.ops.length oc, .int .i64 (A.ops.length : Int), .bool true, .int .i64 (u : Int), .int .i64 ((u : Int) + 1), .pointer (some ⟨g, 3, none⟩), .slice (some ⟨ga, fa, none⟩) A.ops.length oc, .int .i64 (u : Int), .pointer (some ⟨ga, fa + u * 37, none⟩), .agg (opL x).toArray, .pointer (some ⟨k, 3, none⟩), .slice (some ⟨gb, fb, none⟩) B.ops.length od, .int .i64 (u : Int), .pointer (some ⟨gb, fb + u * 37, none⟩), .agg (opL y).toArray, .bool true, .bool false, rfl, by omega, fun i hi => ?_, JC.out.trans (HB7.out.mono JC.out.size)⟩, ?_⟩
        ·by_cases hit : i < u
         ·exact JF.out i hit
         ·rw [show i = u by omega, ← Jx.out, ← Jy.out]; exact hxy
        ·simp only [intOf]; show A.ops.length - ((u : Int) + 1).toNat < A.ops.length - ((u : Int)).toNat; omega
       ·skip
        refine wp_region_held_drew (S := fun wx => wx.cell? ⟨g, 3, none⟩ = some (.slice (some ⟨ga, fa, none⟩) A.ops.length oc) ∧ wx.cell? ⟨k, 3, none⟩ = some (.slice (some ⟨gb, fb, none⟩) B.ops.length od) ∧ wx.rangeAt ga (fa + u * 37) (opL x) ∧ wx.rangeAt gb (fb + u * 37) (opL y)) (by kernel_rfl) (HS0.out _ hD0) (fun hHeld => ?_)
        refine tkS (i := 0) (oi := ⟨some 62, Op.fieldAddr 28 (Operand.tmp 2) 3, 0, _, _, none⟩) (v := .pointer (some ⟨g, 3, none⟩)) rfl (Or.inl ⟨by rfl, fun w hS => by obtain ⟨hs1, hs2, hs3, hs4⟩ := hS; go_simp⟩) hHeld ?_
        refine tkS (i := 1) (oi := ⟨some 63, Op.load 26 (Operand.tmp 62), 26, _, _, none⟩) (v := .slice (some ⟨ga, fa, none⟩) A.ops.length oc) rfl (Or.inl ⟨by rfl, fun w hS => by obtain ⟨hs1, hs2, hs3, hs4⟩ := hS; go_simp⟩) hHeld ?_
        refine tkS (i := 2) (oi := ⟨some 64, Op.move (Operand.tmp 6), 3, _, _, none⟩) (v := .int .i64 (u : Int)) rfl (Or.inl ⟨by rfl, fun w hS => by obtain ⟨hs1, hs2, hs3, hs4⟩ := hS; go_simp⟩) hHeld ?_
        refine tkS (i := 3) (oi := ⟨some 65, Op.indexAddr 26 (Operand.tmp 63) (Operand.tmp 64), 0, _, _, none⟩) (v := .pointer (some ⟨ga, fa + u * 37, none⟩)) rfl (Or.inl ⟨by rfl, fun w hS => by obtain ⟨hs1, hs2, hs3, hs4⟩ := hS; go_simp⟩) hHeld ?_
        refine tkS (i := 4) (oi := ⟨some 66, Op.load 88 (Operand.tmp 65), 88, _, _, none⟩) (v := .agg (opL x).toArray) rfl (yieldsIf_load_mid (by rfl) 88 (Operand.tmp 65) rfl ga (fa + u * 37) rfl (opL x) _ (fun w hS => hS.2.2.1) Tryz.underlying88 rfl (Tryz.size88L x)) hHeld ?_
        refine tkS (i := 5) (oi := ⟨some 67, Op.fieldAddr 28 (Operand.tmp 3) 3, 0, _, _, none⟩) (v := .pointer (some ⟨k, 3, none⟩)) rfl (Or.inl ⟨by rfl, fun w hS => by obtain ⟨hs1, hs2, hs3, hs4⟩ := hS; go_simp⟩) hHeld ?_
        refine tkS (i := 6) (oi := ⟨some 68, Op.load 26 (Operand.tmp 67), 26, _, _, none⟩) (v := .slice (some ⟨gb, fb, none⟩) B.ops.length od) rfl (Or.inl ⟨by rfl, fun w hS => by obtain ⟨hs1, hs2, hs3, hs4⟩ := hS; go_simp⟩) hHeld ?_
        refine tkS (i := 7) (oi := ⟨some 69, Op.move (Operand.tmp 6), 3, _, _, none⟩) (v := .int .i64 (u : Int)) rfl (Or.inl ⟨by rfl, fun w hS => by obtain ⟨hs1, hs2, hs3, hs4⟩ := hS; go_simp⟩) hHeld ?_
        refine tkS (i := 8) (oi := ⟨some 70, Op.indexAddr 26 (Operand.tmp 68) (Operand.tmp 69), 0, _, _, none⟩) (v := .pointer (some ⟨gb, fb + u * 37, none⟩)) rfl (Or.inl ⟨by rfl, fun w hS => by obtain ⟨hs1, hs2, hs3, hs4⟩ := hS; go_simp⟩) hHeld ?_
        refine tkS (i := 9) (oi := ⟨some 71, Op.load 88 (Operand.tmp 70), 88, _, _, none⟩) (v := .agg (opL y).toArray) rfl (yieldsIf_load_mid (by rfl) 88 (Operand.tmp 70) rfl gb (fb + u * 37) rfl (opL y) _ (fun w hS => hS.2.2.2) Tryz.underlying88 rfl (Tryz.size88L y)) hHeld ?_
        refine wpAnyH_ready (rs := [10]) (by kernel_rfl) (by simp) ?_
        refine AllReadyH.cons (o := ⟨some 72, Op.call { callee := Callee.value (Operand.func 32), args := #[Operand.tmp 66, Operand.tmp 71], argTypes := #[88, 88] }, 4, _, _, none⟩) rfl (fun K hK => ?_) AllReadyH.nil
        rw [if_pos (by rfl)]
        refine wp_callF 32 _ _ rfl Tryz.in32 #[.agg (opA x), .agg (opA y)] (by simp [Act.eval, rng_load]) (fun vz wz => vz = .bool false ∧ Below wq.heap.size wq wz) ?_ ?_
        ·refine (rsame_any x y wq.drew).mono ?_
         rintro e wz ⟨rfl, h⟩
         rw [hxy]
         exact ⟨_, rfl, rfl, hD0.trans (h.mono hD0.size)⟩
        rintro vz w7 ⟨rfl, h7⟩
        have HB7 := Keep.mk h7
        clear h7
        refine hK.out _ _ (HS0.out _ HB7.out) fun hHeld2 => ?_
        clear hK
        simp only [Act.put, pqA, pqB, pqC]
        refine tkS (i := 11) (oi := ⟨some 73, Op.unOp UnOp.not 4 (Operand.tmp 72), 4, _, _, none⟩) (v := .bool true) rfl (Or.inl ⟨by rfl, fun w hS => by obtain ⟨hs1, hs2, hs3, hs4⟩ := hS; go_simp⟩) hHeld2 ?_
        refine wpAnyH_done (by kernel_rfl) ?_ _
        refine hK18 _ _ ?_
        refine wp_cond_true rfl ?_
        refine wp_seq_k fun K19 hK19 => rgn ?_
        refine VlS (.bool false) ?_
        refine WL.nil (hK19 _ _ ?_)
        refine wp_ret ?_
        go_ret
        have hno : sameN A B = false := by
         have : smL A.ops B.ops = false := by
          rw [Bool.eq_false_iff]; intro h
          simp only [smL, Bool.and_eq_true, List.all_eq_true, List.mem_range] at h
          have := h.2 u hul
          rw [← Jx.out, ← Jy.out, hxy] at this; cases this
         simp [sameN, this]
        exact ⟨by rw [hno]; rfl, B2.out.trans ((JC.out.mono B2x.out).trans (HB7.out.mono (Nat.le_trans B2x.out JC.out.size)))⟩
      ·have hul' : ¬ (u : Int) < (A.ops.length : Int) := by omega
       have hle3 : B.ops.length ≤ u := by omega
       refine wp_seq_k fun K20 hK20 => ?_
       refine wp_seq_k fun K21 hK21 => rgn ?_
       refine VlS (.int .i64 (u : Int)) ?_
       refine VlS (.pointer (some ⟨g, 3, none⟩)) ?_
       refine VlS (.slice oa A.ops.length oc) ?_
       refine VlS (.int .i64 (A.ops.length : Int)) ?_
       refine VlS (.bool false) ?_
       refine WL.nil (hK21 _ _ ?_)
       refine wp_cond_false rfl ?_
       refine wp_exit ?_
       refine hK13 _ _ ?_
       refine wp_seq_k fun K22 hK22 => rgn ?_
       refine VlS (.bool true) ?_
       refine WL.nil (hK22 _ _ ?_)
       refine wp_ret ?_
       go_ret
       have hyes : sameN A B = true := by
        have : smL A.ops B.ops = true := by
         simp only [smL, Bool.and_eq_true, List.all_eq_true, List.mem_range, decide_eq_true_eq]
         exact ⟨h1_28, fun i hi => hF i (by omega)⟩
        simp [sameN, this, h1_4, h1_10, hpe.out]
       exact ⟨by rw [hyes]; rfl, B2.out.trans (hC.mono B2x.out)⟩
    ·have h1_28i : ¬ (A.ops.length : Int) = (B.ops.length : Int) := by omega
     refine VlS (.bool true) ?_
     refine VlS (.bool true) ?_
     refine WL.nil (hK3 _ _ ?_)
     refine wp_cond_true rfl ?_
     refine wp_seq_k fun K23 hK23 => rgn ?_
     refine VlS (.bool false) ?_
     refine WL.nil (hK23 _ _ ?_)
     refine wp_ret ?_
     go_ret
     have hno : sameN A B = false := by simp [sameN, smL, h1_28]
     exact ⟨by rw [hno]; rfl, B2.out⟩
   ·have h1_19i : ¬ (A.ps.length : Int) = (B.ps.length : Int) := by omega
    refine VlS (.bool true) ?_
    refine VlS (.bool true) ?_
    refine VlS (.bool true) ?_
    refine SkS ?_
    refine SkS ?_
    refine SkS ?_
    refine SkS ?_
    refine SkS ?_
    refine SkS ?_
    refine SkS ?_
    refine VlS (.bool true) ?_
    refine WL.nil (hK3 _ _ ?_)
    refine wp_cond_true rfl ?_
    refine wp_seq_k fun K24 hK24 => rgn ?_
    refine VlS (.bool false) ?_
    refine WL.nil (hK24 _ _ ?_)
    refine wp_ret ?_
    go_ret
    have hno : sameN A B = false := by
     have : A.ps ≠ B.ps := fun e => h1_19 (by rw [e])
     simp [sameN, this]
    exact ⟨by rw [hno]; rfl, B2.out⟩
  ·skip
   refine VlS (.bool true) ?_
   refine VlS (.bool true) ?_
   refine VlS (.bool true) ?_
   refine SkS ?_
   refine SkS ?_
   refine SkS ?_
   refine SkS ?_
   refine SkS ?_
   refine SkS ?_
   refine SkS ?_
   refine VlS (.bool true) ?_
   refine VlS (.bool true) ?_
   refine SkS ?_
   refine SkS ?_
   refine SkS ?_
   refine SkS ?_
   refine SkS ?_
   refine SkS ?_
   refine SkS ?_
   refine VlS (.bool true) ?_
   refine WL.nil (hK3 _ _ ?_)
   refine wp_cond_true rfl ?_
   refine wp_seq_k fun K25 hK25 => rgn ?_
   refine VlS (.bool false) ?_
   refine WL.nil (hK25 _ _ ?_)
   refine wp_ret ?_
   go_ret
   have hno : sameN A B = false := by simp [sameN, h1_10]
   exact ⟨by rw [hno]; rfl, B2.out⟩
 ·skip
  refine VlS (.bool true) ?_
  refine VlS (.bool true) ?_
  refine SkS ?_
  refine SkS ?_
  refine SkS ?_
  refine SkS ?_
  refine SkS ?_
  refine VlS (.bool true) ?_
  refine VlS (.bool true) ?_
  refine SkS ?_
  refine SkS ?_
  refine SkS ?_
  refine SkS ?_
  refine SkS ?_
  refine SkS ?_
  refine SkS ?_
  refine VlS (.bool true) ?_
  refine VlS (.bool true) ?_
  refine SkS ?_
  refine SkS ?_
  refine SkS ?_
  refine SkS ?_
  refine SkS ?_
  refine SkS ?_
  refine SkS ?_
  refine VlS (.bool true) ?_
  refine WL.nil (hK3 _ _ ?_)
  refine wp_cond_true rfl ?_
  refine wp_seq_k fun K26 hK26 => rgn ?_
  refine VlS (.bool false) ?_
  refine WL.nil (hK26 _ _ ?_)
  refine wp_ret ?_
  go_ret
  have hno : sameN A B = false := by simp [sameN, h1_4]
  exact ⟨by rw [hno]; rfl, B2.out⟩
def enL (c : Nat → Int) (N : Array Value) : List Value := (bytesA 32 c).toList ++ N.toList
def enA (c : Nat → Int) (N : Array Value) : Array Value := (enL c N).toArray
theorem enA_size (c : Nat → Int) (a k : Int) (x y : Value) : (enA c (ndA a k x y)).size = 36 := by simp [enA, enL, bytesA_size, ndA]
theorem Tryz.size43 : (Tryz.prog.info? 43).map (·.size) = some 36 := by kernel_rfl
theorem Tryz.size43B (c : Nat → Int) (a k : Int) (x y : Value) : (Tryz.prog.info? 43).map (·.size) = some (enA c (ndA a k x y)).size := by rw [enA_size]; exact Tryz.size43
def zEn : Array Value := enA (fun _ => 0) (ndA 0 0 noS noS)
theorem Tryz.new43 (w : World) : (Instr.alloc 43 true (.tuple #[])).run Tryz.prog w = .ok (.pointer (some ⟨w.heap.size, 0, none⟩)) (w.alloc (.cells zEn 43)) := by kernel_rfl
theorem en_built0 : Tryz.prog.built 43 [] = some zEn := by kernel_rfl
theorem enA_one (c : Nat → Int) (a k : Int) (pa : Option Addr) (pn pc : Nat) (oa : Option Addr) (on oc : Nat) : (enA c (ndA a k (.slice pa pn pc) (.slice oa on oc))).all (·.oneCell') = true := by
 rw [Array.all_eq_true_iff_forall_mem]
 intro v hv
 simp only [enA, enL, List.mem_toArray, List.mem_append] at hv
 rcases hv with h | h
 ·rw [hl_bytesA] at h; exact bv_one _ v h
 ·exact Array.all_eq_true_iff_forall_mem.1 (nd_one a k pa pn pc oa on oc) v (by simpa using h)
theorem en_range {w : World} {g : Nat} {T : TypeId} {c : Nat → Int} {N : Array Value} (h : Blk w g T (enA c N)) : w.rangeAt g 0 (bytesA 32 c).toList ∧ w.rangeAt g 32 N.toList := by
 have hr := blk_range h
 constructor
 ·intro j v hv
  refine hr j v ?_
  show (enL c N)[j]? = some v
  unfold enL
  rw [List.getElem?_append_left (List.getElem?_eq_some_iff.1 hv).1]
  exact hv
 ·intro j v hv
  have := hr (32 + j) v (by
   show (enL c N)[32 + j]? = some v
   unfold enL
   rw [List.getElem?_append_right (by simp [bytesA_size])]
   simpa [bytesA_size] using hv)
  rwa [Nat.zero_add] at this
theorem nd_back (a k : Int) (x y : Value) : (ndA a k x y).toList.toArray = ndA a k x y := rfl
theorem eqlA (c : Nat → Int) (w : World) : (binOp .eql 41 (.agg (bytesA 32 c)) (.agg (bytesA 32 c))).run Tryz.prog w = .ok (.bool true) w := by
 have e : bytesA 32 c = bytesA 32 (hof (hl 32 c)) := bytesA_congr fun i hi => by rw [hof, hl_get _ _ _ hi]
 rw [e, run_eqlH, nd_refl]
theorem run_bldEn (c : Nat → Int) (a k : Int) (x y : Value) (w : World) : (Next.value <$> Instr.build 43 #[(0, .agg (bytesA 32 c)), (1, .agg (ndA a k x y))]).run Tryz.prog w = .ok (.value (.agg (enA c (ndA a k x y)))) w := by kernel_rfl
theorem zEn_size : zEn.size = 36 := enA_size _ _ _ _ _
theorem yieldsIf_bld {P : Program} {ops : Array Oper} {S : World → Prop} {op : Oper} {a : Act} (hw : Region.wanted op (yielded ops a.tmps) = true) (t : TypeId) (parts : Array (Nat × Operand)) (ho : op.op = .build t parts)
  (vs : Array (Nat × Value)) (hv : (parts.map fun (i, x) => (i, a.eval x)) = vs) (v : Value) (hr : ∀ w : World, (Next.value <$> Instr.build t vs).run P w = .ok (.value v) w) : YieldsIf P ops S op v a :=
 .inl ⟨hw, fun w _ => by unfold execOp; simp only [ho, hv]; exact hr w⟩
theorem of_any (v : Value) (l : List Int) (w : World) (h : RowAt w v l) (hl : (l.length : Int) ≤ 576460752303423488) : Calls Tryz.prog 33 #[v] w fun e w' => e = .returned (.agg (bytesA 32 (Sh.shaP l))) ∧ Below w.heap.size w w' := Sh.of_any v l w h hl
theorem of_is (v : Value) (l : List Int) (w : World) (h : RowAt w v l) (hl : (l.length : Int) ≤ 576460752303423488) (c : Nat → Int) (hc : Sh.shaP l = c) : Calls Tryz.prog 33 #[v] w fun e w' => e = .returned (.agg (bytesA 32 c)) ∧ Below w.heap.size w w' := by
 have := of_any v l w h hl
 rw [hc] at this
 exact this
def EntP (l : List Int) (w : World) (e : Ending) (w' : World) : Prop :=
 (l.length ≤ 1048576 ∧ (decR l).1 = 0 ∧ ∃ vp vo, e = .returned (.tuple #[.agg (enA (Sh.shaP l) (ndA (decR l).2.2.au (decR l).2.2.ck vp vo)), .nilIface]) ∧ OwnH w' vp (decR l).2.2.ps ∧ OwnO w' vo (decR l).2.2.ops ∧ (∀ x ∈ (decR l).2.2.ops, OpOk x) ∧ (decR l).2.2.ops.length ≤ 1024 ∧ Below w.heap.size w w')
 ∨ ((1048576 < l.length ∨ (¬ 1048576 < l.length ∧ (decR l).1 ≠ 0)) ∧ ∃ q, w.heap.size ≤ q ∧ e = .returned (.tuple #[.agg zEn, err q]) ∧ BadAt w' q (badR l).1 (badR l).2 ∧ Below w.heap.size w w')
theorem Tryz.in10 (w : World) (vs : Array Value) : (callFunc 10 vs).run Tryz.prog w = .ok (.enter 10 vs) w := by kernel_rfl
theorem Tryz.in12 (w : World) (vs : Array Value) : (callFunc 12 vs).run Tryz.prog w = .ok (.enter 12 vs) w := by kernel_rfl
theorem Tryz.in33 (w : World) (vs : Array Value) : (callFunc 33 vs).run Tryz.prog w = .ok (.enter 33 vs) w := by kernel_rfl
set_option maxRecDepth 8000 in
set_option maxHeartbeats 2000000 in
theorem entry_any (v : Value) (l : List Int) (w : World) (hr : RowAt w v l) (hB : Byts l) : Calls Tryz.prog 10 #[v] w (EntP l w) := by
 obtain ⟨va, vc, rfl⟩ := row_form hr
 have HR := Keep.mk hr
 have HBy := Keep.mk hB
 clear hr hB
 go_enter Tryz.func10, Tryz.ntmps10
 refine wp_seq_k fun K1 hK1 => rgn ?_
 refine WL.new (by kernel_rfl) 43 rfl _ Tryz.new43 ?_
 have HE1 := Keep.mk (Blk.new w 43 zEn)
 have B1 := Keep.mk (below_new w (.cells zEn 43))
 generalize w.alloc (.cells zEn 43) = w1 at *
 have HR1 := Keep.mk (HR.out.below B1.out)
 have Bx1 : Keep (w.heap.size ≤ w1.heap.size) := ⟨B1.out.size⟩
 have Hlt : Keep (w.heap.size < w1.heap.size) := ⟨HE1.out.lt⟩
 simp only [Act.put, pqA, pqB, pqC]
 refine VlS (.nilIface) ?_
 refine WL.nil (hK1 _ _ ?_)
 refine wp_seq_k fun K2 hK2 => rgn ?_
 refine VlS (.slice va l.length vc) ?_
 refine WL.callF (by kernel_rfl) 6 _ _ rfl Tryz.in6 #[.slice va l.length vc] (by simp [Act.eval]) ?_
 refine (decode_any _ l w1 HR1.out HBy.out).mono ?_
 rintro e w2 (⟨h1, h2, vp, vo, rfl, h3, h4, h5, h6, h7, h8, hb2⟩ | ⟨h1, q, hq, rfl, hbad, hb2⟩)
 ·refine ⟨_, rfl, ?_⟩
  have H1 := Keep.mk h1
  have H2 := Keep.mk h2
  have HO2 := Keep.mk h3
  have HQ2 := Keep.mk h4
  have Hok := Keep.mk h7
  have Hol := Keep.mk h8
  have BD := Keep.mk hb2
  clear h1 h2 h3 h4 h5 h6 h7 h8 hb2
  obtain ⟨pa, pc, rfl⟩ := HO2.out.sl
  obtain ⟨qa, qc, rfl⟩ := HQ2.out.sl
  obtain ⟨N, hN⟩ : ∃ N, N = (decR l).2.2 := ⟨_, rfl⟩
  rw [← hN] at HO2 HQ2 Hok Hol ⊢
  have HNN := Keep.mk hN
  clear hN
  have HE2 := Keep.mk (HE1.out.below BD.out HE1.out.lt)
  have HR2 := Keep.mk (HR1.out.below BD.out)
  have B2 : Keep (Below w.heap.size w w2) := ⟨B1.out.trans (BD.out.mono Bx1.out)⟩
  simp only [Act.put, pqA, pqB, pqC]
  refine VlS (.tuple #[.agg (ndA N.au N.ck (.slice pa N.ps.length pc) (.slice qa N.ops.length qc)), .nilIface]) ?_
  refine VlS (.agg (ndA N.au N.ck (.slice pa N.ps.length pc) (.slice qa N.ops.length qc))) ?_
  refine VlS (.nilIface) ?_
  refine WL.new (by kernel_rfl) 28 rfl _ Tryz.new28N ?_
  simp only [Act.put, pqA, pqB, pqC]
  refine WL.storeR (by kernel_rfl) 28 (.tmp 4) (.tmp 9) rfl w2.heap.size (ndA N.au N.ck (.slice pa N.ps.length pc) (.slice qa N.ops.length qc)) rfl rfl 28 (ndA 0 0 noS noS) (Blk.new w2 28 _) (Tryz.size28B _ _ _ _) rfl (nd_one _ _ _ _ _ _ _ _) ?_
  have HN3 := Keep.mk ((Blk.new w2 28 (ndA 0 0 noS noS)).setRow (ndA N.au N.ck (.slice pa N.ps.length pc) (.slice qa N.ops.length qc)))
  have BS3 : Keep (Below w2.heap.size w2 ((w2.alloc (.cells (ndA 0 0 noS noS) 28)).setRow w2.heap.size (ndA N.au N.ck (.slice pa N.ps.length pc) (.slice qa N.ops.length qc)))) := ⟨below_setRow (below_new w2 _) (Nat.le_refl _) _⟩
  generalize (w2.alloc (.cells (ndA 0 0 noS noS) 28)).setRow w2.heap.size (ndA N.au N.ck (.slice pa N.ps.length pc) (.slice qa N.ops.length qc)) = w3 at *
  have B3 : Keep (Below w.heap.size w w3) := ⟨B2.out.trans (BS3.out.mono B2.out.size)⟩
  have HE3 := Keep.mk (HE2.out.below BS3.out HE2.out.lt)
  have HR3 := Keep.mk (HR2.out.below BS3.out)
  have HO3 := Keep.mk (HO2.out.below BS3.out)
  have HQ3 := Keep.mk (HQ2.out.below BS3.out)
  simp only [Act.put]
  refine VlS (.nilIface) ?_
  refine WL.nil (hK2 _ _ ?_)
  refine wp_seq_k fun K3 hK3 => ?_
  refine wp_seq_k fun K4 hK4 => rgn ?_
  refine VlS (.nilIface) ?_
  refine VlS (.bool false) ?_
  refine WL.nil (hK4 _ _ ?_)
  refine wp_cond_false rfl ?_
  refine wp_skip ?_
  refine hK3 _ _ ?_
  refine wp_seq_k fun K5 hK5 => ?_
  have hD0 : Below w3.heap.size w3 w3.drew := (Below.refl _ _).drew
  obtain ⟨hc, hhc⟩ : ∃ hc, Sh.shaP l = hc := ⟨_, rfl⟩
  have Hhc := Keep.mk hhc
  clear hhc
  obtain ⟨EN, hEN⟩ : ∃ EN, EN = enA hc (ndA N.au N.ck (.slice pa N.ps.length pc) (.slice qa N.ops.length qc)) := ⟨_, rfl⟩
  have HEs : Keep (EN.size = 36) := ⟨by rw [hEN]; exact enA_size _ _ _ _ _⟩
  have HEo : Keep (EN.all (·.oneCell') = true) := ⟨by rw [hEN]; exact enA_one _ _ _ _ _ _ _ _ _⟩
  have HEr : Keep (∀ w : World, (Next.value <$> Instr.build 43 #[(0, .agg (bytesA 32 hc)), (1, .agg (ndA N.au N.ck (.slice pa N.ps.length pc) (.slice qa N.ops.length qc)).toList.toArray)]).run Tryz.prog w = .ok (.value (.agg EN)) w) := ⟨fun w => by rw [hEN]; exact run_bldEn _ _ _ _ _ w⟩
  have HEe := Keep.mk hEN
  clear hEN
  have HS0 : Keep (∀ wx, Below w3.heap.size w3 wx → wx.rangeAt w2.heap.size 0 (ndA N.au N.ck (.slice pa N.ps.length pc) (.slice qa N.ops.length qc)).toList) := ⟨fun wx hb => blk_range (HN3.out.below hb HN3.out.lt)⟩
  refine wp_region_held_drew (S := fun wx => wx.rangeAt w2.heap.size 0 (ndA N.au N.ck (.slice pa N.ps.length pc) (.slice qa N.ops.length qc)).toList) (by kernel_rfl) (HS0.out _ hD0) (fun hHeld => ?_)
  refine tkS (i := 0) (oi := ⟨some 15, Op.move (Operand.tmp 0), 24, _, _, none⟩) (v := .slice va l.length vc) rfl (Or.inl ⟨by rfl, fun w hS => by go_simp⟩) hHeld ?_
  refine tkS (i := 2) (oi := ⟨some 17, Op.load 28 (Operand.tmp 4), 28, _, _, none⟩) (v := .agg (ndA N.au N.ck (.slice pa N.ps.length pc) (.slice qa N.ops.length qc)).toList.toArray) rfl (yieldsIf_load_mid (by rfl) 28 (Operand.tmp 4) rfl w2.heap.size 0 rfl (ndA N.au N.ck (.slice pa N.ps.length pc) (.slice qa N.ops.length qc)).toList _ (fun w hS => hS) Tryz.underlying28 rfl (Tryz.size28B _ _ _ _)) hHeld ?_
  refine wpAnyH_ready (rs := [1]) (by kernel_rfl) (by simp) ?_
  refine AllReadyH.cons (o := ⟨some 16, Op.call { callee := Callee.value (Operand.func 33), args := #[Operand.tmp 15], argTypes := #[24] }, 41, _, _, none⟩) rfl (fun K hK => ?_) AllReadyH.nil
  rw [if_pos (by rfl)]
  refine wp_callF 33 _ _ rfl Tryz.in33 #[.slice va l.length vc] (by simp [Act.eval]) (fun vz wz => vz = .agg (bytesA 32 hc) ∧ Below w3.heap.size w3 wz) ?_ ?_
  ·refine (of_is _ l w3.drew (HR3.out.below hD0) (by have := H1.out; omega) hc Hhc.out).mono ?_
   rintro e wz ⟨rfl, h⟩
   exact ⟨_, rfl, rfl, hD0.trans (h.mono hD0.size)⟩
  rintro vz w7 ⟨rfl, h7⟩
  have HB7 := Keep.mk h7
  clear h7
  refine hK.out _ _ (HS0.out _ HB7.out) fun hHeld2 => ?_
  clear hK
  simp only [Act.put, pqA, pqB, pqC]
  refine tkS (i := 3) (oi := ⟨some 18, Op.build 43 #[(0, Operand.tmp 16), (1, Operand.tmp 17)], 43, _, _, none⟩) (v := .agg EN) rfl (yieldsIf_bld (by rfl) 43 _ rfl _ (by simp [Act.eval]) _ HEr.out) hHeld2 ?_
  refine wpAnyH_ready (rs := [4]) (by kernel_rfl) (by simp) ?_
  refine AllReadyH.cons (o := ⟨none, Op.store 43 (Operand.tmp 2) (Operand.tmp 18), 0, _, _, none⟩) rfl (fun K hK => ?_) AllReadyH.nil
  rw [if_pos (by rfl)]
  refine wp_store_row 43 (.tmp 2) (.tmp 18) rfl w.heap.size EN rfl rfl 43 zEn (HE3.out.below HB7.out HE3.out.lt) (by rw [HEs.out]; exact Tryz.size43) (zEn_size.trans HEs.out.symm) HEo.out ?_
  refine hK.out _ _ (blk_range ((HN3.out.below HB7.out HN3.out.lt).setRow_ne (by have := B2.out.size; have := Hlt.out; have := BD.out.size; omega) _)) fun hH3 => ?_
  clear hK
  simp only [Act.put, pqA, pqB, pqC]
  refine tkS (i := 5) (oi := ⟨some 3, Op.assign (Operand.const Value.nilIface), 30, _, _, none⟩) (v := .nilIface) rfl (Or.inl ⟨by rfl, fun w hS => by go_simp⟩) hH3 ?_
  refine wpAnyH_done (by kernel_rfl) ?_ _
  refine hK5 _ _ ?_
  refine wp_ret ?_
  try simp only [Exit.then]
  have HZ := (HE3.out.below HB7.out HE3.out.lt).setRow EN
  refine bodyPost_ret (v := .tuple #[.agg EN, .nilIface]) (results_cell_row2 Tryz.results10 _ _ w.heap.size 43 _ (0, 0) _ _ rfl rfl HZ Tryz.underlying43 rfl (by rw [HEs.out]; exact Tryz.size43)) rfl ?_
  have B7 : Below w.heap.size w w7 := B3.out.trans (HB7.out.mono B3.out.size)
  have Gs : Grown w7 (w7.setRow w.heap.size EN) fun k => k = w.heap.size := Grown.setRow w7 w.heap.size _ fun _ => rfl
  refine .inl ⟨H1.out, H2.out, .slice pa N.ps.length pc, .slice qa N.ops.length qc, by rw [HEe.out, ← HNN.out, Hhc.out], ?_, ?_, by rw [← HNN.out]; exact Hok.out, by rw [← HNN.out]; exact Hol.out, below_setRow B7 (Nat.le_refl _) _⟩
  ·rw [← HNN.out]; exact (HO3.out.below HB7.out).grown Gs (fun k hk e => (HO3.out.below HB7.out).ne (HE3.out.below HB7.out HE3.out.lt) (by decide) (e ▸ hk))
  ·rw [← HNN.out]; exact (HQ3.out.below HB7.out).grown Gs (fun k hk e => (HQ3.out.below HB7.out).ne (HE3.out.below HB7.out HE3.out.lt) (by decide) (e ▸ hk))
 ·refine ⟨_, rfl, ?_⟩
  have H1 := Keep.mk h1
  have HB2 := Keep.mk hbad
  have BD := Keep.mk hb2
  have Hq := Keep.mk (Nat.le_trans Bx1.out hq)
  clear h1 hbad hb2 hq
  unfold err
  have HE2 := Keep.mk (HE1.out.below BD.out HE1.out.lt)
  have B2 : Keep (Below w.heap.size w w2) := ⟨B1.out.trans (BD.out.mono Bx1.out)⟩
  simp only [Act.put, pqA, pqB, pqC]
  refine VlS (.tuple #[.agg (ndA 0 0 noS noS), .iface 69 (ptr q)]) ?_
  refine VlS (.agg (ndA 0 0 noS noS)) ?_
  refine VlS (.iface 69 (ptr q)) ?_
  refine WL.new (by kernel_rfl) 28 rfl _ Tryz.new28N ?_
  simp only [Act.put, pqA, pqB, pqC]
  refine WL.storeR (by kernel_rfl) 28 (.tmp 4) (.tmp 9) rfl w2.heap.size (ndA 0 0 noS noS) rfl rfl 28 (ndA 0 0 noS noS) (Blk.new w2 28 _) (Tryz.size28B _ _ _ _) rfl (nd_one 0 0 none 0 0 none 0 0) ?_
  have BS3 : Keep (Below w2.heap.size w2 ((w2.alloc (.cells (ndA 0 0 noS noS) 28)).setRow w2.heap.size (ndA 0 0 noS noS))) := ⟨below_setRow (below_new w2 _) (Nat.le_refl _) _⟩
  generalize (w2.alloc (.cells (ndA 0 0 noS noS) 28)).setRow w2.heap.size (ndA 0 0 noS noS) = w3 at *
  have B3 : Keep (Below w.heap.size w w3) := ⟨B2.out.trans (BS3.out.mono B2.out.size)⟩
  have HE3 := Keep.mk (HE2.out.below BS3.out HE2.out.lt)
  have HB3 : Keep (BadAt w3 q (badR l).1 (badR l).2) := ⟨HB2.out.below BS3.out HB2.out.lt⟩
  simp only [Act.put]
  refine VlS (.iface 69 (ptr q)) ?_
  refine WL.nil (hK2 _ _ ?_)
  refine wp_seq_k fun K6 hK6 => ?_
  refine wp_seq_k fun K7 hK7 => rgn ?_
  refine VlS (.iface 69 (ptr q)) ?_
  refine VlS (.bool true) ?_
  refine WL.nil (hK7 _ _ ?_)
  refine wp_cond_true rfl ?_
  refine wp_seq_k fun K8 hK8 => rgn ?_
  refine WL.bld (by kernel_rfl) 43 _ rfl [] (by simp) _ en_built0 ?_
  simp only [Act.put, pqA, pqB, pqC]
  refine VlS (.iface 69 (ptr q)) ?_
  refine WL.storeR (by kernel_rfl) 43 (.tmp 2) (.tmp 13) rfl w.heap.size zEn rfl rfl 43 zEn HE3.out (Tryz.size43B _ _ _ _ _) rfl (enA_one _ 0 0 none 0 0 none 0 0) ?_
  simp only [Act.put]
  refine VlS (.iface 69 (ptr q)) ?_
  refine WL.nil (hK8 _ _ ?_)
  refine wp_ret ?_
  try simp only [Exit.then]
  refine bodyPost_ret (v := .tuple #[.agg zEn, .iface 69 (ptr q)]) (results_cell_row2 Tryz.results10 _ _ w.heap.size 43 _ (0, 0) _ _ rfl rfl (HE3.out.setRow _) Tryz.underlying43 rfl (Tryz.size43B _ _ _ _ _)) rfl ?_
  exact .inr ⟨H1.out, q, Hq.out, rfl, HB3.out.setRow_ne (blk_ne HB3.out HE3.out (by decide)) _, below_setRow B3.out (Nat.le_refl _) _⟩
set_option maxRecDepth 8000 in
theorem sameEntry_zero (w : World) : Calls Tryz.prog 12 #[.agg zEn, .agg zEn] w fun e w' => e = .returned (.bool true) ∧ Below w.heap.size w w' := by
 go_enter Tryz.func12, Tryz.ntmps12
 refine wp_seq_k fun K1 hK1 => rgn ?_
 refine WL.box (by kernel_rfl) 43 (.tmp 0) rfl _ rfl ?_
 have HX0 := Keep.mk (Blk.new w 43 zEn)
 have B0 := Keep.mk (below_new w (.cells zEn 43))
 generalize w.alloc (.cells zEn 43) = w1 at *
 simp only [Act.put, pqA, pqB, pqC]
 refine WL.box (by kernel_rfl) 43 (.tmp 1) rfl _ rfl ?_
 have HXa := Keep.mk (HX0.out.alloc (.cells zEn 43))
 have HXb := Keep.mk (Blk.new w1 43 zEn)
 have B2 : Keep (Below w.heap.size w (w1.alloc (.cells zEn 43))) := ⟨B0.out.trans ((below_new w1 _).mono B0.out.size)⟩
 generalize w1.alloc (.cells zEn 43) = w2 at *
 have hea := eqlA (fun _ => 0)
 simp only [Act.put, pqA, pqB, pqC]
 refine VlS (.bool false) ?_
 refine WL.nil (hK1 _ _ ?_)
 refine wp_seq_k fun K2 hK2 => rgn ?_
 refine VlS (.pointer (some ⟨w.heap.size, 0, none⟩)) ?_
 refine WL.mid (by kernel_rfl) 41 (.tmp 5) rfl w.heap.size 0 rfl (bytesA 32 fun _ => 0).toList _ (en_range HXa.out).1 Tryz.underlying41 rfl (by rw [Array.length_toList]; exact Tryz.size41B _) ?_
 rw [bytesA_list]
 simp only [Act.put, pqA, pqB, pqC]
 refine VlS (.pointer (some ⟨w1.heap.size, 0, none⟩)) ?_
 refine WL.mid (by kernel_rfl) 41 (.tmp 7) rfl w1.heap.size 0 rfl (bytesA 32 fun _ => 0).toList _ (en_range HXb.out).1 Tryz.underlying41 rfl (by rw [Array.length_toList]; exact Tryz.size41B _) ?_
 rw [bytesA_list]
 simp only [Act.put, pqA, pqB, pqC]
 refine VlS (.bool true) ?_
 refine VlS (.bool true) ?_
 refine VlS (.pointer (some ⟨w.heap.size, 32, none⟩)) ?_
 refine WL.mid (by kernel_rfl) 28 (.tmp 11) rfl w.heap.size 32 rfl (ndA 0 0 noS noS).toList _ (en_range HXa.out).2 Tryz.underlying28 rfl (Tryz.size28B _ _ _ _) ?_
 rw [nd_back]
 simp only [Act.put, pqA, pqB, pqC]
 refine VlS (.pointer (some ⟨w1.heap.size, 32, none⟩)) ?_
 refine WL.mid (by kernel_rfl) 28 (.tmp 13) rfl w1.heap.size 32 rfl (ndA 0 0 noS noS).toList _ (en_range HXb.out).2 Tryz.underlying28 rfl (Tryz.size28B _ _ _ _) ?_
 rw [nd_back]
 simp only [Act.put, pqA, pqB, pqC]
 refine WL.callF (by kernel_rfl) 9 _ _ rfl Tryz.in9 #[.agg (ndA 0 0 noS noS), .agg (ndA 0 0 noS noS)] (by simp [Act.eval]) ?_
 refine (rsame_node zeroN zeroN noS noS noS noS w2 (ndAt_empty w2 zeroN rfl rfl (by decide) (by decide)) (ndAt_empty w2 zeroN rfl rfl (by decide) (by decide))).mono ?_
 rintro e w3 ⟨rfl, hb3⟩
 refine ⟨_, rfl, ?_⟩
 rw [sameN_refl]
 simp only [Act.put, pqA, pqB, pqC]
 refine VlS (.bool true) ?_
 refine VlS (.bool true) ?_
 refine WL.nil (hK2 _ _ ?_)
 refine wp_ret ?_
 go_ret
 exact ⟨rfl, B2.out.trans (hb3.mono B2.out.size)⟩
theorem nextN_le (D : List Int) (n : Int) : nextN D n ≤ D.length := by
 by_cases hw : nextW D n = 0
 ·rw [(nextN_0 _ _ hw).1]; exact (nextN_0 _ _ hw).2.2
 ·rw [nextN_1 _ _ hw]; exact Nat.zero_le _
set_option maxRecDepth 8000 in
set_option maxHeartbeats 1000000 in
theorem xend_bad (x : Nat) (vB : Value) (a : Nat) (why b : Int) (w : World) (h : RfAt w x vB a why b) (hw : why ≠ 0) :
  Calls Tryz.prog 31 #[ptr x] w fun e w' => e = .returned (.agg #[.int .i64 why, .int .i64 b]) ∧ Below w.heap.size w w' := by
 have HS := Keep.mk (RS.start h)
 have HB := Keep.mk (below_new w (.cells #[.int .i64 0, .int .i64 0] 34))
 have hy1 : (why == 0) = false := by simpa using hw
 clear h
 go_enter Tryz.func31, Tryz.ntmps31
 go_wp2_with (first | (refine wpList_new rfl 34 rfl _ Tryz.new34 ?_; refine Hid.out ?_))
 refine hid_in ?_
 generalize w.alloc (.cells #[.int .i64 0, .int .i64 0] 34) = w1 at *
 have c2 := RfAt.c2 HS.out.rf
 have c3 := RfAt.c3 HS.out.rf
 have d0 := HS.out.d0
 have d1 := HS.out.d1
 have e0 := HS.out.cell.frozen 0
 have e1 := HS.out.cell.frozen 1
 go_wp2
 exact bodyPost_ret (results_cell1_row Tryz.results31 _ _ w.heap.size 34 _ (0, 0) _ rfl (HS.out.fin (.int .i64 why) (.int .i64 b)).1 Tryz.underlying34 rfl Tryz.size34) rfl ⟨rfl, below_two HB.out (Nat.le_refl _) _ _⟩
set_option maxRecDepth 8000 in
set_option maxHeartbeats 1000000 in
theorem xend_good (x : Nat) (va : Option Addr) (n vc a : Nat) (w : World) (h : RfAt w x (.slice va n vc) a 0 0) (ha : a ≤ n) (hb : n ≤ 140737488355328) (W : Int) (hW : W = if a < n then 23 else 0) :
  Calls Tryz.prog 31 #[ptr x] w fun e w' => ∃ b, ErrB W a b ∧ e = .returned (.agg #[.int .i64 W, .int .i64 b]) ∧ RfAt w' x (.slice va n vc) a W b ∧ Grown w w' fun k => k = x := by
 have HS := Keep.mk (RS.start h)
 have Ha := Keep.mk ha
 have Hb := Keep.mk hb
 by_cases hlt : a < n
 ·obtain rfl : W = 23 := by rw [hW, if_pos hlt]
  have hli : (0 : Int) < (n : Int) - (a : Int) := by omega
  clear h ha hb hW
  go_enter Tryz.func31, Tryz.ntmps31
  go_wp2_with (first | (refine wpList_new rfl 34 rfl _ Tryz.new34 ?_; refine Hid.out ?_))
  refine hid_in ?_
  generalize w.alloc (.cells #[.int .i64 0, .int .i64 0] 34) = w1 at *
  have c2 := RfAt.c2 HS.out.rf
  go_wp2_with fail
  refine (xleft_any x _ n vc a 0 0 w1 HS.out.rf Ha.out Hb.out).mono ?_
  rintro e w2 ⟨rfl, qd, hw2⟩
  have HS2 := Keep.mk (HS.out.later (w2 := w2) (by rw [hw2]; exact below_drewN _ _))
  clear hw2 c2 HS
  have c1 := RfAt.c1 HS2.out.rf
  go_wp2_with fail
  refine (xwrong_any x _ a 23 w2 HS2.out.rf).mono ?_
  rintro e w3 ⟨rfl, hr, hg⟩
  have HS3 := Keep.mk (HS2.out.turned hr hg)
  clear hr hg HS2 c1
  have d0 := HS3.out.d0
  have d1 := HS3.out.d1
  have e0 := HS3.out.cell.frozen 0
  have e1 := HS3.out.cell.frozen 1
  go_wp2
  have hf := HS3.out.fin (.int .i64 23) (.int .i64 (a : Int))
  exact bodyPost_ret (results_cell1_row Tryz.results31 _ _ w.heap.size 34 _ (0, 0) _ rfl hf.1 Tryz.underlying34 rfl Tryz.size34) rfl ⟨_, .inr ⟨by decide, rfl⟩, rfl, hf.2.1, hf.2.2⟩
 ·obtain rfl : W = 0 := by rw [hW, if_neg hlt]
  have hli : ¬ (0 : Int) < (n : Int) - (a : Int) := by omega
  clear h ha hb hW
  go_enter Tryz.func31, Tryz.ntmps31
  go_wp2_with (first | (refine wpList_new rfl 34 rfl _ Tryz.new34 ?_; refine Hid.out ?_))
  refine hid_in ?_
  generalize w.alloc (.cells #[.int .i64 0, .int .i64 0] 34) = w1 at *
  have c2 := RfAt.c2 HS.out.rf
  go_wp2_with fail
  refine (xleft_any x _ n vc a 0 0 w1 HS.out.rf Ha.out Hb.out).mono ?_
  rintro e w2 ⟨rfl, qd, hw2⟩
  have HS3 := Keep.mk (HS.out.later (w2 := w2) (by rw [hw2]; exact below_drewN _ _))
  clear hw2 c2 HS
  have d0 := HS3.out.d0
  have d1 := HS3.out.d1
  have e0 := HS3.out.cell.frozen 0
  have e1 := HS3.out.cell.frozen 1
  go_wp2
  have hf := HS3.out.fin (.int .i64 0) (.int .i64 0)
  exact bodyPost_ret (results_cell1_row Tryz.results31 _ _ w.heap.size 34 _ (0, 0) _ rfl hf.1 Tryz.underlying34 rfl Tryz.size34) rfl ⟨_, .inl ⟨rfl, rfl⟩, rfl, hf.2.1, hf.2.2⟩
theorem Tryz.in31 (w : World) (vs : Array Value) : (callFunc 31 vs).run Tryz.prog w = .ok (.enter 31 vs) w := by kernel_rfl
def bOf (why : Int) (a : Nat) : Int := if why = 0 then 0 else (a : Int)
theorem bOf_is {why b : Int} {a : Nat} (h : ErrB why a b) : b = bOf why a := errB_one h
theorem bOf_0 (a : Nat) : bOf 0 a = 0 := rfl
theorem bOf_1 {why : Int} (h : why ≠ 0) (a : Nat) : bOf why a = (a : Int) := if_neg h
structure RX (w0 : World) (x : Nat) (vB : Value) (L : List Int) (why : Int) (a : Nat) (w : World) : Prop where
 rf : RfAt w x vB a why (bOf why a)
 le : a ≤ L.length
 hx : w0.heap.size ≤ x
 bel : Below w0.heap.size w0 w
 row : RowAt w0 vB L
 len : L.length ≤ 140737488355328
 byts : Byts L
theorem RX.rows {w0 : World} {x : Nat} {vB : Value} {L : List Int} {why : Int} {a : Nat} {w : World} (h : RX w0 x vB L why a w) : ∀ wx, (Grown w wx fun k => k = x) → RowAt wx vB L := fun wx hw =>
 h.row.below (h.bel.trans (hw.to_below (fun k hk e => by have := h.hx; omega) h.bel.size))
theorem RX.keep {w0 : World} {x : Nat} {vB : Value} {L : List Int} {why : Int} {a : Nat} {w w' : World} {S : Nat → Prop} (h : RX w0 x vB L why a w) (hg : Grown w w' S) (hx : ¬ S x) (hs : ∀ k, k < w0.heap.size → ¬ S k) : RX w0 x vB L why a w' :=
 ⟨hg.blk h.rf hx, h.le, h.hx, h.bel.trans (hg.to_below hs h.bel.size), h.row, h.len, h.byts⟩
theorem RX.below {w0 : World} {x : Nat} {vB : Value} {L : List Int} {why : Int} {a : Nat} {w w' : World} (h : RX w0 x vB L why a w) (hb : Below w.heap.size w w') : RX w0 x vB L why a w' := h.keep (Grown.below (S := fun _ => False) hb) (fun h => h) fun _ _ h => h
theorem RX.step {w0 : World} {x : Nat} {vB : Value} {L : List Int} {why why' b : Int} {a a' : Nat} {w w' : World} (h : RX w0 x vB L why a w) (hr : RfAt w' x vB a' why' b) (hb : b = bOf why' a') (hg : Grown w w' fun k => k = x) (hl : a' ≤ L.length) : RX w0 x vB L why' a' w' :=
 ⟨hb ▸ hr, hl, h.hx, h.bel.trans (hg.to_below (fun k hk e => by have := h.hx; omega) h.bel.size), h.row, h.len, h.byts⟩
theorem RX.good {w0 : World} {x : Nat} {vB : Value} {L : List Int} {a : Nat} {w : World} (h : RX w0 x vB L 0 a w) : RfAt w x vB a 0 0 := h.rf
theorem RX.c1 {w0 : World} {x : Nat} {vB : Value} {L : List Int} {why : Int} {a : Nat} {w : World} (h : RX w0 x vB L why a w) : w.cell? ⟨x, 1, none⟩ = some (.int .i64 (a : Int)) := RfAt.c1 h.rf
theorem RX.c2 {w0 : World} {x : Nat} {vB : Value} {L : List Int} {why : Int} {a : Nat} {w : World} (h : RX w0 x vB L why a w) : w.cell? ⟨x, 2, none⟩ = some (.int .i64 why) := RfAt.c2 h.rf
def RXP (w0 : World) (x : Nat) (vB : Value) (L : List Int) (why : Int) (a : Nat) (res : Value) (w : World) (e : Ending) (w' : World) : Prop :=
 e = .returned (.tuple #[res, .agg (erA why (bOf why a))]) ∧ RX w0 x vB L why a w' ∧ Grown w w' fun k => k = x
theorem rxp {w0 : World} {x : Nat} {vB : Value} {L : List Int} {why : Int} {a a' : Nat} {w w' : World} {W : Int} {res : Value} {e : Ending} (h : RX w0 x vB L why a w) (hl : a' ≤ L.length) (hp : RfPost x vB W a' res w e w') : RXP w0 x vB L W a' res w e w' := by
 obtain ⟨b, h1, rfl, h2, h3⟩ := hp
 have hb := bOf_is h1
 subst hb
 exact ⟨rfl, h.step h2 rfl h3 hl, h3⟩
theorem add_le' {L : List Int} {a N : Nat} (ha : a ≤ L.length) (h : N ≤ (L.drop a).length) : a + N ≤ L.length := by rw [List.length_drop] at h; omega
theorem xnum_x {w0 : World} {x : Nat} {vB : Value} {L : List Int} {a : Nat} {w : World} (most : Nat) (h : RX w0 x vB L 0 a w) (W X : Int) (N : Nat) (hM : fstM (L.drop a) most = (X, (N : Int), W)) :
  Calls Tryz.prog 58 #[ptr x, .int .u64 (most : Int)] w (RXP w0 x vB L W (a + N) (.int .u64 X) w) :=
 (xnum_good x vB L a most w h.good h.rows h.le h.len h.byts _ rfl W X N hM).mono fun e w' hp => rxp h (add_le' h.le (by have := (fstM_shape (L.drop a) most).2.2; rw [hM] at this; simp only at this; omega)) hp
theorem xhash_x {w0 : World} {x : Nat} {vB : Value} {L : List Int} {a : Nat} {w : World} (h : RX w0 x vB L 0 a w) :
  Calls Tryz.prog 59 #[ptr x] w (RXP w0 x vB L (nextW (L.drop a) 32) (a + nextN (L.drop a) 32) (.agg (bytesA 32 (hrd (L.drop a) (nextW (L.drop a) 32)))) w) :=
 (xhash_good x vB L a w h.good h.rows h.le h.len _ rfl _ rfl _ rfl).mono fun e w' hp => rxp h (add_le' h.le (nextN_le _ _)) hp
theorem xbyte_x {w0 : World} {x : Nat} {vB : Value} {L : List Int} {a : Nat} {w : World} (h : RX w0 x vB L 0 a w) (c : Int) (hc : c = if nextW (L.drop a) 1 = 0 then (L.drop a).getD 0 0 else 0) :
  Calls Tryz.prog 56 #[ptr x] w (RXP w0 x vB L (nextW (L.drop a) 1) (a + nextN (L.drop a) 1) (.int .u8 c) w) :=
 (xbyte_good x vB L a w h.good h.rows h.le h.len _ rfl _ rfl _ rfl c hc).mono fun e w' hp => rxp h (add_le' h.le (nextN_le _ _)) hp
theorem xwrong_x {w0 : World} {x : Nat} {vB : Value} {L : List Int} {a : Nat} {w : World} (q : Nat) (why : Int) (hw : why ≠ 0) (hq : q ≤ L.length) (h : RX w0 x vB L 0 a w) :
  Calls Tryz.prog 57 #[ptr x, .int .i64 why, .int .i64 (q : Int)] w fun e w' => e = .returned (.agg (erA why (q : Int))) ∧ RX w0 x vB L why q w' ∧ Grown w w' fun k => k = x :=
 (xwrongG x vB a q why w h.good).mono fun e w' hp => ⟨hp.1, h.step hp.2.1 (bOf_1 hw q).symm hp.2.2 hq, hp.2.2⟩
def stEnd (L : List Int) (why : Int) (a : Nat) : Int := if why = 0 then (if a < L.length then 23 else 0) else why
theorem xend_x {w0 : World} {x : Nat} {vB : Value} {L : List Int} {why : Int} {a : Nat} {w : World} (h : RX w0 x vB L why a w) :
  Calls Tryz.prog 31 #[ptr x] w fun e w' => e = .returned (.agg (erA (stEnd L why a) (bOf (stEnd L why a) a))) ∧ Grown w w' fun k => k = x := by
 unfold stEnd
 by_cases hw : why = 0
 ·subst hw
  simp only [if_pos]
  obtain ⟨va, vc, hv⟩ := row_form h.row
  have h2 := h.good
  subst hv
  refine (xend_good x va L.length vc a w h2 h.le h.len _ rfl).mono ?_
  rintro e w' ⟨b, h1, rfl, _, h3⟩
  have hb := bOf_is h1
  subst hb
  exact ⟨rfl, h3⟩
 ·simp only [if_neg hw]
  refine (xend_bad x vB a why _ w h.rf hw).mono ?_
  rintro e w' ⟨rfl, hb⟩
  exact ⟨rfl, Grown.below hb⟩
end Go.Proofs.YtdeiicldfgkidaaGreat
