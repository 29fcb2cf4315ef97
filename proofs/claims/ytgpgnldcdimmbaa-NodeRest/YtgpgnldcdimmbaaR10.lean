import Derived.Test.YtgpgnldcdimmbaaR09
import Derived.Deep.RegionHeld3
namespace Go.Proofs.Ytgpgnldcdimmbaa
open Go.RowKit
set_option linter.unusedSimpArgs false
set_option linter.unusedVariables false

def smL (a b : List OpV) : Bool := decide (a.length = b.length) && (List.range a.length).all fun i => sm (a.getD i zeroOp) (b.getD i zeroOp)
def sameN (A B : NodeV) : Bool := decide (A.au = B.au) && (decide (A.ck = B.ck) && (decide (A.ps = B.ps) && smL A.ops B.ops))
theorem smL_iff {a b : List OpV} (ha : ∀ x ∈ a, OpOk x) (hb : ∀ x ∈ b, OpOk x) : smL a b = true ↔ a = b := by
  constructor
  · intro h
    simp only [smL, Bool.and_eq_true, decide_eq_true_eq, List.all_eq_true, List.mem_range] at h
    refine List.ext_getElem h.1 fun i h1 h2 => ?_
    have := h.2 i h1
    rw [show a.getD i zeroOp = a[i] by simp [List.getD_eq_getElem?_getD, h1], show b.getD i zeroOp = b[i] by simp [List.getD_eq_getElem?_getD, h2]] at this
    exact (sm_iff (ha _ (List.getElem_mem h1)).node (hb _ (List.getElem_mem h2)).node).1 this
  · rintro rfl
    simp [smL, sm_refl]
theorem sameN_refl (A : NodeV) : sameN A A = true := by simp [sameN, smL, sm_refl]
theorem ps_eq {a b : List Hs} (h : a.length = b.length) (he : ∀ i, i < a.length → a.getD i default = b.getD i default) : a = b := List.ext_getElem h fun i h1 h2 => by
  have := he i h1
  rwa [show a.getD i default = a[i] by simp [List.getD_eq_getElem?_getD, h1], show b.getD i default = b[i] by simp [List.getD_eq_getElem?_getD, h2]] at this
theorem neqH_run (x y : Hs) (b : Bool) (h : decide (x = y) = b) (w : World) : (binOp .neq 40 (.agg (Sh.encH x).toArray) (.agg (Sh.encH y).toArray)).run Try.prog w = .ok (.bool (!b)) w := by
  rw [Sh.run_neqL, h]
theorem HRow.elem {w : World} {a : Option Addr} {n c : Nat} {l : List Hs} (h : Sh.HRow w (.slice a n c) l) {t : Nat} (ht : t < l.length) : ∃ b off, a = some ⟨b, off, none⟩ ∧ ∀ wx, Below w.heap.size w wx → wx.rangeAt b (off + t * 32) (Sh.encH (l.getD t default)) := by
  obtain ⟨b, off, h1, h2, h3, h4⟩ := h.at (by omega)
  refine ⟨b, off, h1, fun wx hb => ?_⟩
  have h5 := Sh.rangeAt_elem (Sh.rangeAt_below h4 hb (Sh.rangeAt_lt h4 (by omega))) t ht
  rwa [show l.getD t default = l[t] by simp [List.getD_eq_getElem?_getD, ht]]
theorem Try.in18 (w : World) (vs : Array Value) : (callFunc 18 vs).run Try.prog w = .ok (.enter 18 vs) w := by kernel_rfl
set_option maxRecDepth 8000 in
set_option maxHeartbeats 4000000 in
theorem rsame_node (A B : NodeV) (vp vo vq vr : Value) (w : World) (hA : NdAt w A vp vo) (hB : NdAt w B vq vr) : Calls Try.prog 18 #[.agg (ndA A.au A.ck vp vo), .agg (ndA B.au B.ck vq vr)] w fun e w' => e = .returned (.bool (sameN A B)) ∧ Below w.heap.size w w' := by
  obtain ⟨pa, pc, rfl⟩ := hA.ps.form
  obtain ⟨oa, oc, rfl⟩ := hA.ops.form
  obtain ⟨pb, pd, rfl⟩ := hB.ps.form
  obtain ⟨ob, od, rfl⟩ := hB.ops.form
  have HA := Keep.mk hA
  have HB := Keep.mk hB
  clear hA hB
  go_enter Try.func18, Try.ntmps18
  refine wp_seq_k fun K1 hK1 => ?_
  refine wp_region_list (WL.out ?_)
  refine WL.box (by kernel_rfl) 27 (.tmp 0) rfl _ rfl ?_
  have HX0 := Keep.mk (Blk.new w 27 (ndA A.au A.ck (.slice pa A.ps.length pc) (.slice oa A.ops.length oc)))
  have B0 := Keep.mk (below_new w (.cells (ndA A.au A.ck (.slice pa A.ps.length pc) (.slice oa A.ops.length oc)) 27))
  generalize w.alloc (.cells (ndA A.au A.ck (.slice pa A.ps.length pc) (.slice oa A.ops.length oc)) 27) = w1 at *
  have B0x : Keep (w.heap.size ≤ w1.heap.size) := ⟨B0.out.size⟩
  generalize hgg : w.heap.size = g at *
  simp only [Act.put, List.setIfInBounds_toArray, List.set_cons_zero, List.set_cons_succ]
  refine WL.box (by kernel_rfl) 27 (.tmp 1) rfl _ rfl ?_
  have HXa := Keep.mk (HX0.out.alloc (.cells (ndA B.au B.ck (.slice pb B.ps.length pd) (.slice ob B.ops.length od)) 27))
  have HXb := Keep.mk (Blk.new w1 27 (ndA B.au B.ck (.slice pb B.ps.length pd) (.slice ob B.ops.length od)))
  have B2 : Keep (Below g w (w1.alloc (.cells (ndA B.au B.ck (.slice pb B.ps.length pd) (.slice ob B.ops.length od)) 27))) := ⟨B0.out.trans ((below_new w1 _).mono B0x.out)⟩
  generalize w1.alloc (.cells (ndA B.au B.ck (.slice pb B.ps.length pd) (.slice ob B.ops.length od)) 27) = w2 at *
  have HA2 := Keep.mk (HA.out.below (by rw [hgg]; exact B2.out))
  have HB2 := Keep.mk (HB.out.below (by rw [hgg]; exact B2.out))
  have B2x : Keep (g ≤ w2.heap.size) := ⟨by have := B2.out.size; omega⟩
  generalize w1.heap.size = k at *
  have a0 := HXa.out.c 0 (nd_0 _ _ _ _)
  have a1 := HXa.out.c 1 (nd_1 _ _ _ _)
  have a2 := HXa.out.c 2 (nd_2 _ _ _ _)
  have a3 := HXa.out.c 3 (nd_3 _ _ _ _)
  have b0 := HXb.out.c 0 (nd_0 _ _ _ _)
  have b1 := HXb.out.c 1 (nd_1 _ _ _ _)
  have b2 := HXb.out.c 2 (nd_2 _ _ _ _)
  have b3 := HXb.out.c 3 (nd_3 _ _ _ _)
  simp only [Act.put, List.setIfInBounds_toArray, List.set_cons_zero, List.set_cons_succ]
  refine WL.val (by kernel_rfl) (.bool false) (by go_simp) ?_
  simp only [Act.put, List.setIfInBounds_toArray, List.set_cons_zero, List.set_cons_succ]
  refine WL.nil ?_
  refine hK1 _ _ ?_
  refine wp_seq_k fun K2 hK2 => ?_
  refine wp_seq_k fun K3 hK3 => ?_
  refine wp_region_list (WL.out ?_)
  refine WL.val (by kernel_rfl) (.pointer (some ⟨g, 0, none⟩)) (by go_simp) ?_
  simp only [Act.put, List.setIfInBounds_toArray, List.set_cons_zero, List.set_cons_succ]
  refine WL.val (by kernel_rfl) (.int .i64 A.au) (by go_simp) ?_
  simp only [Act.put, List.setIfInBounds_toArray, List.set_cons_zero, List.set_cons_succ]
  refine WL.val (by kernel_rfl) (.pointer (some ⟨k, 0, none⟩)) (by go_simp) ?_
  simp only [Act.put, List.setIfInBounds_toArray, List.set_cons_zero, List.set_cons_succ]
  refine WL.val (by kernel_rfl) (.int .i64 B.au) (by go_simp) ?_
  simp only [Act.put, List.setIfInBounds_toArray, List.set_cons_zero, List.set_cons_succ]
  by_cases h1_4 : A.au = B.au
  · skip
    refine WL.val (by kernel_rfl) (.bool false) (by go_simp) ?_
    simp only [Act.put, List.setIfInBounds_toArray, List.set_cons_zero, List.set_cons_succ]
    refine WL.val (by kernel_rfl) (.bool false) (by go_simp) ?_
    simp only [Act.put, List.setIfInBounds_toArray, List.set_cons_zero, List.set_cons_succ]
    refine WL.val (by kernel_rfl) (.pointer (some ⟨g, 1, none⟩)) (by go_simp) ?_
    simp only [Act.put, List.setIfInBounds_toArray, List.set_cons_zero, List.set_cons_succ]
    refine WL.val (by kernel_rfl) (.int .i64 A.ck) (by go_simp) ?_
    simp only [Act.put, List.setIfInBounds_toArray, List.set_cons_zero, List.set_cons_succ]
    refine WL.val (by kernel_rfl) (.pointer (some ⟨k, 1, none⟩)) (by go_simp) ?_
    simp only [Act.put, List.setIfInBounds_toArray, List.set_cons_zero, List.set_cons_succ]
    refine WL.val (by kernel_rfl) (.int .i64 B.ck) (by go_simp) ?_
    simp only [Act.put, List.setIfInBounds_toArray, List.set_cons_zero, List.set_cons_succ]
    by_cases h1_10 : A.ck = B.ck
    · skip
      refine WL.val (by kernel_rfl) (.bool false) (by go_simp) ?_
      simp only [Act.put, List.setIfInBounds_toArray, List.set_cons_zero, List.set_cons_succ]
      refine WL.val (by kernel_rfl) (.bool false) (by go_simp) ?_
      simp only [Act.put, List.setIfInBounds_toArray, List.set_cons_zero, List.set_cons_succ]
      refine WL.val (by kernel_rfl) (.bool false) (by go_simp) ?_
      simp only [Act.put, List.setIfInBounds_toArray, List.set_cons_zero, List.set_cons_succ]
      refine WL.val (by kernel_rfl) (.pointer (some ⟨g, 2, none⟩)) (by go_simp) ?_
      simp only [Act.put, List.setIfInBounds_toArray, List.set_cons_zero, List.set_cons_succ]
      refine WL.val (by kernel_rfl) (.slice pa A.ps.length pc) (by go_simp) ?_
      simp only [Act.put, List.setIfInBounds_toArray, List.set_cons_zero, List.set_cons_succ]
      refine WL.val (by kernel_rfl) (.int .i64 (A.ps.length : Int)) (by go_simp) ?_
      simp only [Act.put, List.setIfInBounds_toArray, List.set_cons_zero, List.set_cons_succ]
      refine WL.val (by kernel_rfl) (.pointer (some ⟨k, 2, none⟩)) (by go_simp) ?_
      simp only [Act.put, List.setIfInBounds_toArray, List.set_cons_zero, List.set_cons_succ]
      refine WL.val (by kernel_rfl) (.slice pb B.ps.length pd) (by go_simp) ?_
      simp only [Act.put, List.setIfInBounds_toArray, List.set_cons_zero, List.set_cons_succ]
      refine WL.val (by kernel_rfl) (.int .i64 (B.ps.length : Int)) (by go_simp) ?_
      simp only [Act.put, List.setIfInBounds_toArray, List.set_cons_zero, List.set_cons_succ]
      by_cases h1_19 : A.ps.length = B.ps.length
      · have h1_19i : (A.ps.length : Int) = (B.ps.length : Int) := by omega
        refine WL.val (by kernel_rfl) (.bool false) (by go_simp) ?_
        simp only [Act.put, List.setIfInBounds_toArray, List.set_cons_zero, List.set_cons_succ]
        refine WL.val (by kernel_rfl) (.bool false) (by go_simp) ?_
        simp only [Act.put, List.setIfInBounds_toArray, List.set_cons_zero, List.set_cons_succ]
        refine WL.val (by kernel_rfl) (.bool false) (by go_simp) ?_
        simp only [Act.put, List.setIfInBounds_toArray, List.set_cons_zero, List.set_cons_succ]
        refine WL.val (by kernel_rfl) (.pointer (some ⟨g, 3, none⟩)) (by go_simp) ?_
        simp only [Act.put, List.setIfInBounds_toArray, List.set_cons_zero, List.set_cons_succ]
        refine WL.val (by kernel_rfl) (.slice oa A.ops.length oc) (by go_simp) ?_
        simp only [Act.put, List.setIfInBounds_toArray, List.set_cons_zero, List.set_cons_succ]
        refine WL.val (by kernel_rfl) (.int .i64 (A.ops.length : Int)) (by go_simp) ?_
        simp only [Act.put, List.setIfInBounds_toArray, List.set_cons_zero, List.set_cons_succ]
        refine WL.val (by kernel_rfl) (.pointer (some ⟨k, 3, none⟩)) (by go_simp) ?_
        simp only [Act.put, List.setIfInBounds_toArray, List.set_cons_zero, List.set_cons_succ]
        refine WL.val (by kernel_rfl) (.slice ob B.ops.length od) (by go_simp) ?_
        simp only [Act.put, List.setIfInBounds_toArray, List.set_cons_zero, List.set_cons_succ]
        refine WL.val (by kernel_rfl) (.int .i64 (B.ops.length : Int)) (by go_simp) ?_
        simp only [Act.put, List.setIfInBounds_toArray, List.set_cons_zero, List.set_cons_succ]
        by_cases h1_28 : A.ops.length = B.ops.length
        · have h1_28i : (A.ops.length : Int) = (B.ops.length : Int) := by omega
          refine WL.val (by kernel_rfl) (.bool false) (by go_simp) ?_
          simp only [Act.put, List.setIfInBounds_toArray, List.set_cons_zero, List.set_cons_succ]
          refine WL.val (by kernel_rfl) (.bool false) (by go_simp) ?_
          simp only [Act.put, List.setIfInBounds_toArray, List.set_cons_zero, List.set_cons_succ]
          refine WL.nil ?_
          refine hK3 _ _ ?_
          refine wp_cond_false rfl ?_
          refine wp_skip ?_
          refine hK2 _ _ ?_
          refine wp_seq_k fun K4 hK4 => ?_
          refine wp_seq_k fun K5 hK5 => ?_
          refine wp_region_list (WL.out ?_)
          refine WL.val (by kernel_rfl) (.int .i64 0) (by go_simp) ?_
          simp only [Act.put, List.setIfInBounds_toArray, List.set_cons_zero, List.set_cons_succ]
          refine WL.nil ?_
          refine hK5 _ _ ?_
          refine wp_block ?_
          refine wp_loop (fun ac wr => ∃ (t : Nat) (u4 u37 u38 u39 u40 u41 u42 u43 u44 u45 u46 u47 u48 u49 u50 u51 u52 u53 u54 : Value), ac = { tmps := #[.agg (ndA A.au A.ck (.slice pa A.ps.length pc) (.slice oa A.ops.length oc)), .agg (ndA B.au B.ck (.slice pb B.ps.length pd) (.slice ob B.ops.length od)), .pointer (some ⟨g, 0, none⟩), .pointer (some ⟨k, 0, none⟩), u4, .int .i64 (t : Int), undef, .pointer (some ⟨g, 0, none⟩), .int .i64 A.au, .pointer (some ⟨k, 0, none⟩), .int .i64 B.au, .bool false, .bool false, .pointer (some ⟨g, 1, none⟩), .int .i64 A.ck, .pointer (some ⟨k, 1, none⟩), .int .i64 B.ck, .bool false, .bool false, .bool false, .pointer (some ⟨g, 2, none⟩), .slice pa A.ps.length pc, .int .i64 (A.ps.length : Int), .pointer (some ⟨k, 2, none⟩), .slice pb B.ps.length pd, .int .i64 (B.ps.length : Int), .bool false, .bool false, .bool false, .pointer (some ⟨g, 3, none⟩), .slice oa A.ops.length oc, .int .i64 (A.ops.length : Int), .pointer (some ⟨k, 3, none⟩), .slice ob B.ops.length od, .int .i64 (B.ops.length : Int), .bool false, .bool false, u37, u38, u39, u40, u41, u42, u43, u44, u45, u46, u47, u48, u49, u50, u51, u52, u53, u54, undef, undef, undef, undef, undef, undef, undef, undef, undef, undef, undef, undef, undef, undef, undef, undef, undef, undef, undef], defers := [] } ∧ t ≤ A.ps.length ∧ (∀ i, i < t → A.ps.getD i default = B.ps.getD i default) ∧ Below w2.heap.size w2 wr) (fun a _ => A.ps.length - (intOf (a.tmps.getD 5 undef)).toNat) ⟨0, .bool false, undef, undef, undef, undef, undef, undef, undef, undef, undef, undef, undef, undef, undef, undef, undef, undef, undef, undef, rfl, by omega, (fun i hi => by omega), Below.refl _ _⟩ ?_
          rintro ac wr ⟨t, u4, u37, u38, u39, u40, u41, u42, u43, u44, u45, u46, u47, u48, u49, u50, u51, u52, u53, u54, rfl, ht, hE, hB⟩
          have a2 := (HXa.out.below hB HXa.out.lt).c 2 (nd_2 _ _ _ _)
          by_cases htl : t < A.ps.length
          · have htl' : (t : Int) < (A.ps.length : Int) := by omega
            have hwr1 : IntKind.i64.wrap ((t : Int) + 1) = (t : Int) + 1 := by rw [IntKind.wrap_i64]; have := HA.out.lp; omega
            have htb : t < B.ps.length := by omega
            obtain ⟨ga, fa, rfl, hea⟩ := HRow.elem (HA2.out.below hB).ps htl
            obtain ⟨gb, fb, rfl, heb⟩ := HRow.elem (HB2.out.below hB).ps htb
            obtain ⟨x, hx⟩ : ∃ x, x = A.ps.getD t default := ⟨_, rfl⟩
            obtain ⟨y, hy⟩ : ∃ y, y = B.ps.getD t default := ⟨_, rfl⟩
            rw [← hx] at hea
            rw [← hy] at heb
            have htb' : (t : Int) < (B.ps.length : Int) := by omega
            have HS0 : Keep (∀ wx, Below wr.heap.size wr wx → wx.cell? ⟨g, 2, none⟩ = some (.slice (some ⟨ga, fa, none⟩) A.ps.length pc) ∧ wx.cell? ⟨k, 2, none⟩ = some (.slice (some ⟨gb, fb, none⟩) B.ps.length pd) ∧ wx.rangeAt ga (fa + t * 32) (Sh.encH x) ∧ wx.rangeAt gb (fb + t * 32) (Sh.encH y)) := ⟨fun wx hb => ⟨((HXa.out.below hB HXa.out.lt).below hb (HXa.out.below hB HXa.out.lt).lt).c 2 (nd_2 _ _ _ _), ((HXb.out.below hB HXb.out.lt).below hb (HXb.out.below hB HXb.out.lt).lt).c 2 (nd_2 _ _ _ _), hea wx hb, heb wx hb⟩⟩
            have Jx := Keep.mk hx
            have Jy := Keep.mk hy
            have JB := Keep.mk hB
            have JE := Keep.mk hE
            clear hea heb hx hy hB hE
            refine wp_seq_k fun K6 hK6 => ?_
            refine wp_seq_k fun K7 hK7 => ?_
            refine wp_region_list (WL.out ?_)
            refine WL.val (by kernel_rfl) (.int .i64 (t : Int)) (by go_simp) ?_
            simp only [Act.put, List.setIfInBounds_toArray, List.set_cons_zero, List.set_cons_succ]
            refine WL.val (by kernel_rfl) (.pointer (some ⟨g, 2, none⟩)) (by go_simp) ?_
            simp only [Act.put, List.setIfInBounds_toArray, List.set_cons_zero, List.set_cons_succ]
            refine WL.val (by kernel_rfl) (.slice (some ⟨ga, fa, none⟩) A.ps.length pc) (by go_simp) ?_
            simp only [Act.put, List.setIfInBounds_toArray, List.set_cons_zero, List.set_cons_succ]
            refine WL.val (by kernel_rfl) (.int .i64 (A.ps.length : Int)) (by go_simp) ?_
            simp only [Act.put, List.setIfInBounds_toArray, List.set_cons_zero, List.set_cons_succ]
            refine WL.val (by kernel_rfl) (.bool true) (by go_simp) ?_
            simp only [Act.put, List.setIfInBounds_toArray, List.set_cons_zero, List.set_cons_succ]
            refine WL.nil ?_
            refine hK7 _ _ ?_
            refine wp_cond_true rfl ?_
            refine wp_skip ?_
            refine hK6 _ _ ?_
            refine wp_seq_k fun K8 hK8 => ?_
            refine wp_block ?_
            refine wp_seq_k fun K9 hK9 => ?_
            have hD0 : Below wr.heap.size wr wr.drew := (Below.refl _ _).drew
            clear a2
            by_cases hxy : x = y
            · have hnq := neqH_run x y true (decide_eq_true hxy)
              have Hxy := Keep.mk hxy
              clear hxy
              refine wp_region_held_drew (S := fun wx => wx.cell? ⟨g, 2, none⟩ = some (.slice (some ⟨ga, fa, none⟩) A.ps.length pc) ∧ wx.cell? ⟨k, 2, none⟩ = some (.slice (some ⟨gb, fb, none⟩) B.ps.length pd) ∧ wx.rangeAt ga (fa + t * 32) (Sh.encH x) ∧ wx.rangeAt gb (fb + t * 32) (Sh.encH y)) (by kernel_rfl) (HS0.out _ hD0) (fun hHeld => ?_)
              refine wpAnyH_take (i := 0) (oi := ⟨some 44, Op.fieldAddr 27 (Operand.tmp 2) 2, 0, _, _, none⟩) (v := .pointer (some ⟨g, 2, none⟩)) rfl (by kernel_rfl) (by kernel_rfl) (by kernel_rfl) (fun _ _ _ h => h) (Or.inl ⟨by rfl, fun w hS => by obtain ⟨hs1, hs2, hs3, hs4⟩ := hS; go_simp⟩) hHeld ?_
              simp only [Act.put, List.setIfInBounds_toArray, List.set_cons_zero, List.set_cons_succ]
              refine wpAnyH_take (i := 1) (oi := ⟨some 45, Op.load 24 (Operand.tmp 44), 24, _, _, none⟩) (v := .slice (some ⟨ga, fa, none⟩) A.ps.length pc) rfl (by kernel_rfl) (by kernel_rfl) (by kernel_rfl) (fun _ _ _ h => h) (Or.inl ⟨by rfl, fun w hS => by obtain ⟨hs1, hs2, hs3, hs4⟩ := hS; go_simp⟩) hHeld ?_
              simp only [Act.put, List.setIfInBounds_toArray, List.set_cons_zero, List.set_cons_succ]
              refine wpAnyH_take (i := 2) (oi := ⟨some 46, Op.move (Operand.tmp 5), 3, _, _, none⟩) (v := .int .i64 (t : Int)) rfl (by kernel_rfl) (by kernel_rfl) (by kernel_rfl) (fun _ _ _ h => h) (Or.inl ⟨by rfl, fun w hS => by obtain ⟨hs1, hs2, hs3, hs4⟩ := hS; go_simp⟩) hHeld ?_
              simp only [Act.put, List.setIfInBounds_toArray, List.set_cons_zero, List.set_cons_succ]
              refine wpAnyH_take (i := 3) (oi := ⟨some 47, Op.indexAddr 24 (Operand.tmp 45) (Operand.tmp 46), 0, _, _, none⟩) (v := .pointer (some ⟨ga, fa + t * 32, none⟩)) rfl (by kernel_rfl) (by kernel_rfl) (by kernel_rfl) (fun _ _ _ h => h) (Or.inl ⟨by rfl, fun w hS => by obtain ⟨hs1, hs2, hs3, hs4⟩ := hS; go_simp⟩) hHeld ?_
              simp only [Act.put, List.setIfInBounds_toArray, List.set_cons_zero, List.set_cons_succ]
              refine wpAnyH_take (i := 4) (oi := ⟨some 48, Op.load 40 (Operand.tmp 47), 40, _, _, none⟩) (v := .agg (Sh.encH x).toArray) rfl (by kernel_rfl) (by kernel_rfl) (by kernel_rfl) (fun _ _ _ h => h) (yieldsIf_load_mid (by rfl) 40 (Operand.tmp 47) rfl ga (fa + t * 32) rfl (Sh.encH x) _ (fun w hS => hS.2.2.1) Try.underlying40 rfl (Try.sizeHL x)) hHeld ?_
              simp only [Act.put, List.setIfInBounds_toArray, List.set_cons_zero, List.set_cons_succ]
              refine wpAnyH_take (i := 5) (oi := ⟨some 49, Op.fieldAddr 27 (Operand.tmp 3) 2, 0, _, _, none⟩) (v := .pointer (some ⟨k, 2, none⟩)) rfl (by kernel_rfl) (by kernel_rfl) (by kernel_rfl) (fun _ _ _ h => h) (Or.inl ⟨by rfl, fun w hS => by obtain ⟨hs1, hs2, hs3, hs4⟩ := hS; go_simp⟩) hHeld ?_
              simp only [Act.put, List.setIfInBounds_toArray, List.set_cons_zero, List.set_cons_succ]
              refine wpAnyH_take (i := 6) (oi := ⟨some 50, Op.load 24 (Operand.tmp 49), 24, _, _, none⟩) (v := .slice (some ⟨gb, fb, none⟩) B.ps.length pd) rfl (by kernel_rfl) (by kernel_rfl) (by kernel_rfl) (fun _ _ _ h => h) (Or.inl ⟨by rfl, fun w hS => by obtain ⟨hs1, hs2, hs3, hs4⟩ := hS; go_simp⟩) hHeld ?_
              simp only [Act.put, List.setIfInBounds_toArray, List.set_cons_zero, List.set_cons_succ]
              refine wpAnyH_take (i := 7) (oi := ⟨some 51, Op.move (Operand.tmp 5), 3, _, _, none⟩) (v := .int .i64 (t : Int)) rfl (by kernel_rfl) (by kernel_rfl) (by kernel_rfl) (fun _ _ _ h => h) (Or.inl ⟨by rfl, fun w hS => by obtain ⟨hs1, hs2, hs3, hs4⟩ := hS; go_simp⟩) hHeld ?_
              simp only [Act.put, List.setIfInBounds_toArray, List.set_cons_zero, List.set_cons_succ]
              refine wpAnyH_take (i := 8) (oi := ⟨some 52, Op.indexAddr 24 (Operand.tmp 50) (Operand.tmp 51), 0, _, _, none⟩) (v := .pointer (some ⟨gb, fb + t * 32, none⟩)) rfl (by kernel_rfl) (by kernel_rfl) (by kernel_rfl) (fun _ _ _ h => h) (Or.inl ⟨by rfl, fun w hS => by obtain ⟨hs1, hs2, hs3, hs4⟩ := hS; go_simp⟩) hHeld ?_
              simp only [Act.put, List.setIfInBounds_toArray, List.set_cons_zero, List.set_cons_succ]
              refine wpAnyH_take (i := 9) (oi := ⟨some 53, Op.load 40 (Operand.tmp 52), 40, _, _, none⟩) (v := .agg (Sh.encH y).toArray) rfl (by kernel_rfl) (by kernel_rfl) (by kernel_rfl) (fun _ _ _ h => h) (yieldsIf_load_mid (by rfl) 40 (Operand.tmp 52) rfl gb (fb + t * 32) rfl (Sh.encH y) _ (fun w hS => hS.2.2.2) Try.underlying40 rfl (Try.sizeHL y)) hHeld ?_
              simp only [Act.put, List.setIfInBounds_toArray, List.set_cons_zero, List.set_cons_succ]
              refine wpAnyH_take (i := 10) (oi := ⟨some 54, Op.binOp BinOp.neq 40 (Operand.tmp 48) (Operand.tmp 53) 40, 4, _, _, none⟩) (v := .bool false) rfl (by kernel_rfl) (by kernel_rfl) (by kernel_rfl) (fun _ _ _ h => h) (Or.inl ⟨by rfl, fun w hS => by have hnq' := hnq w; go_simp⟩) hHeld ?_
              simp only [Act.put, List.setIfInBounds_toArray, List.set_cons_zero, List.set_cons_succ]
              refine wpAnyH_done (by kernel_rfl) ?_ _
              refine hK9 _ _ ?_
              refine wp_cond_false rfl ?_
              refine wp_skip ?_
              refine hK8 _ _ ?_
              refine wp_region_list (WL.out ?_)
              refine WL.val (by kernel_rfl) (.int .i64 (t : Int)) (by go_simp) ?_
              simp only [Act.put, List.setIfInBounds_toArray, List.set_cons_zero, List.set_cons_succ]
              refine WL.val (by kernel_rfl) (.int .i64 ((t : Int) + 1)) (by go_simp) ?_
              simp only [Act.put, List.setIfInBounds_toArray, List.set_cons_zero, List.set_cons_succ]
              refine WL.val (by kernel_rfl) (.int .i64 ((t : Int) + 1)) (by go_simp) ?_
              simp only [Act.put, List.setIfInBounds_toArray, List.set_cons_zero, List.set_cons_succ]
              refine WL.nil ?_
              refine ⟨⟨t + 1, u4, .int .i64 (t : Int), .pointer (some ⟨g, 2, none⟩), .slice (some ⟨ga, fa, none⟩) A.ps.length pc, .int .i64 (A.ps.length : Int), .bool true, .int .i64 (t : Int), .int .i64 ((t : Int) + 1), .pointer (some ⟨g, 2, none⟩), .slice (some ⟨ga, fa, none⟩) A.ps.length pc, .int .i64 (t : Int), .pointer (some ⟨ga, fa + t * 32, none⟩), .agg (Sh.encH x).toArray, .pointer (some ⟨k, 2, none⟩), .slice (some ⟨gb, fb, none⟩) B.ps.length pd, .int .i64 (t : Int), .pointer (some ⟨gb, fb + t * 32, none⟩), .agg (Sh.encH y).toArray, .bool false, rfl, by omega, fun i hi => ?_, JB.out.trans (hD0.mono JB.out.size)⟩, ?_⟩
              · by_cases hit : i < t
                · exact JE.out i hit
                · rw [show i = t by omega, ← Jx.out, ← Jy.out]; exact Hxy.out
              · simp only [intOf]; show A.ps.length - ((t : Int) + 1).toNat < A.ps.length - ((t : Int)).toNat; omega
            · have hnq := neqH_run x y false (decide_eq_false hxy)
              have Hxy := Keep.mk hxy
              clear hxy
              refine wp_region_held_drew (S := fun wx => wx.cell? ⟨g, 2, none⟩ = some (.slice (some ⟨ga, fa, none⟩) A.ps.length pc) ∧ wx.cell? ⟨k, 2, none⟩ = some (.slice (some ⟨gb, fb, none⟩) B.ps.length pd) ∧ wx.rangeAt ga (fa + t * 32) (Sh.encH x) ∧ wx.rangeAt gb (fb + t * 32) (Sh.encH y)) (by kernel_rfl) (HS0.out _ hD0) (fun hHeld => ?_)
              refine wpAnyH_take (i := 0) (oi := ⟨some 44, Op.fieldAddr 27 (Operand.tmp 2) 2, 0, _, _, none⟩) (v := .pointer (some ⟨g, 2, none⟩)) rfl (by kernel_rfl) (by kernel_rfl) (by kernel_rfl) (fun _ _ _ h => h) (Or.inl ⟨by rfl, fun w hS => by obtain ⟨hs1, hs2, hs3, hs4⟩ := hS; go_simp⟩) hHeld ?_
              simp only [Act.put, List.setIfInBounds_toArray, List.set_cons_zero, List.set_cons_succ]
              refine wpAnyH_take (i := 1) (oi := ⟨some 45, Op.load 24 (Operand.tmp 44), 24, _, _, none⟩) (v := .slice (some ⟨ga, fa, none⟩) A.ps.length pc) rfl (by kernel_rfl) (by kernel_rfl) (by kernel_rfl) (fun _ _ _ h => h) (Or.inl ⟨by rfl, fun w hS => by obtain ⟨hs1, hs2, hs3, hs4⟩ := hS; go_simp⟩) hHeld ?_
              simp only [Act.put, List.setIfInBounds_toArray, List.set_cons_zero, List.set_cons_succ]
              refine wpAnyH_take (i := 2) (oi := ⟨some 46, Op.move (Operand.tmp 5), 3, _, _, none⟩) (v := .int .i64 (t : Int)) rfl (by kernel_rfl) (by kernel_rfl) (by kernel_rfl) (fun _ _ _ h => h) (Or.inl ⟨by rfl, fun w hS => by obtain ⟨hs1, hs2, hs3, hs4⟩ := hS; go_simp⟩) hHeld ?_
              simp only [Act.put, List.setIfInBounds_toArray, List.set_cons_zero, List.set_cons_succ]
              refine wpAnyH_take (i := 3) (oi := ⟨some 47, Op.indexAddr 24 (Operand.tmp 45) (Operand.tmp 46), 0, _, _, none⟩) (v := .pointer (some ⟨ga, fa + t * 32, none⟩)) rfl (by kernel_rfl) (by kernel_rfl) (by kernel_rfl) (fun _ _ _ h => h) (Or.inl ⟨by rfl, fun w hS => by obtain ⟨hs1, hs2, hs3, hs4⟩ := hS; go_simp⟩) hHeld ?_
              simp only [Act.put, List.setIfInBounds_toArray, List.set_cons_zero, List.set_cons_succ]
              refine wpAnyH_take (i := 4) (oi := ⟨some 48, Op.load 40 (Operand.tmp 47), 40, _, _, none⟩) (v := .agg (Sh.encH x).toArray) rfl (by kernel_rfl) (by kernel_rfl) (by kernel_rfl) (fun _ _ _ h => h) (yieldsIf_load_mid (by rfl) 40 (Operand.tmp 47) rfl ga (fa + t * 32) rfl (Sh.encH x) _ (fun w hS => hS.2.2.1) Try.underlying40 rfl (Try.sizeHL x)) hHeld ?_
              simp only [Act.put, List.setIfInBounds_toArray, List.set_cons_zero, List.set_cons_succ]
              refine wpAnyH_take (i := 5) (oi := ⟨some 49, Op.fieldAddr 27 (Operand.tmp 3) 2, 0, _, _, none⟩) (v := .pointer (some ⟨k, 2, none⟩)) rfl (by kernel_rfl) (by kernel_rfl) (by kernel_rfl) (fun _ _ _ h => h) (Or.inl ⟨by rfl, fun w hS => by obtain ⟨hs1, hs2, hs3, hs4⟩ := hS; go_simp⟩) hHeld ?_
              simp only [Act.put, List.setIfInBounds_toArray, List.set_cons_zero, List.set_cons_succ]
              refine wpAnyH_take (i := 6) (oi := ⟨some 50, Op.load 24 (Operand.tmp 49), 24, _, _, none⟩) (v := .slice (some ⟨gb, fb, none⟩) B.ps.length pd) rfl (by kernel_rfl) (by kernel_rfl) (by kernel_rfl) (fun _ _ _ h => h) (Or.inl ⟨by rfl, fun w hS => by obtain ⟨hs1, hs2, hs3, hs4⟩ := hS; go_simp⟩) hHeld ?_
              simp only [Act.put, List.setIfInBounds_toArray, List.set_cons_zero, List.set_cons_succ]
              refine wpAnyH_take (i := 7) (oi := ⟨some 51, Op.move (Operand.tmp 5), 3, _, _, none⟩) (v := .int .i64 (t : Int)) rfl (by kernel_rfl) (by kernel_rfl) (by kernel_rfl) (fun _ _ _ h => h) (Or.inl ⟨by rfl, fun w hS => by obtain ⟨hs1, hs2, hs3, hs4⟩ := hS; go_simp⟩) hHeld ?_
              simp only [Act.put, List.setIfInBounds_toArray, List.set_cons_zero, List.set_cons_succ]
              refine wpAnyH_take (i := 8) (oi := ⟨some 52, Op.indexAddr 24 (Operand.tmp 50) (Operand.tmp 51), 0, _, _, none⟩) (v := .pointer (some ⟨gb, fb + t * 32, none⟩)) rfl (by kernel_rfl) (by kernel_rfl) (by kernel_rfl) (fun _ _ _ h => h) (Or.inl ⟨by rfl, fun w hS => by obtain ⟨hs1, hs2, hs3, hs4⟩ := hS; go_simp⟩) hHeld ?_
              simp only [Act.put, List.setIfInBounds_toArray, List.set_cons_zero, List.set_cons_succ]
              refine wpAnyH_take (i := 9) (oi := ⟨some 53, Op.load 40 (Operand.tmp 52), 40, _, _, none⟩) (v := .agg (Sh.encH y).toArray) rfl (by kernel_rfl) (by kernel_rfl) (by kernel_rfl) (fun _ _ _ h => h) (yieldsIf_load_mid (by rfl) 40 (Operand.tmp 52) rfl gb (fb + t * 32) rfl (Sh.encH y) _ (fun w hS => hS.2.2.2) Try.underlying40 rfl (Try.sizeHL y)) hHeld ?_
              simp only [Act.put, List.setIfInBounds_toArray, List.set_cons_zero, List.set_cons_succ]
              refine wpAnyH_take (i := 10) (oi := ⟨some 54, Op.binOp BinOp.neq 40 (Operand.tmp 48) (Operand.tmp 53) 40, 4, _, _, none⟩) (v := .bool true) rfl (by kernel_rfl) (by kernel_rfl) (by kernel_rfl) (fun _ _ _ h => h) (Or.inl ⟨by rfl, fun w hS => by have hnq' := hnq w; go_simp⟩) hHeld ?_
              simp only [Act.put, List.setIfInBounds_toArray, List.set_cons_zero, List.set_cons_succ]
              refine wpAnyH_done (by kernel_rfl) ?_ _
              refine hK9 _ _ ?_
              refine wp_cond_true rfl ?_
              refine wp_seq_k fun K10 hK10 => ?_
              refine wp_region_list (WL.out ?_)
              refine WL.val (by kernel_rfl) (.bool false) (by go_simp) ?_
              simp only [Act.put, List.setIfInBounds_toArray, List.set_cons_zero, List.set_cons_succ]
              refine WL.nil ?_
              refine hK10 _ _ ?_
              refine wp_ret ?_
              go_ret
              have hno : sameN A B = false := by
                have : A.ps ≠ B.ps := fun e => Hxy.out (by rw [Jx.out, Jy.out, e])
                simp [sameN, this]
              exact ⟨by rw [hno]; rfl, B2.out.trans ((JB.out.mono B2x.out).trans ((Below.refl _ _).drew.mono (Nat.le_trans B2x.out JB.out.size)))⟩
          · have htl' : ¬ (t : Int) < (A.ps.length : Int) := by omega
            have hle2 : B.ps.length ≤ t := by omega
            have hpe : Keep (A.ps = B.ps) := ⟨ps_eq h1_19 (fun i hi => hE i (by omega))⟩
            have JB := Keep.mk hB
            clear hB hE
            refine wp_seq_k fun K11 hK11 => ?_
            refine wp_seq_k fun K12 hK12 => ?_
            refine wp_region_list (WL.out ?_)
            refine WL.val (by kernel_rfl) (.int .i64 (t : Int)) (by go_simp) ?_
            simp only [Act.put, List.setIfInBounds_toArray, List.set_cons_zero, List.set_cons_succ]
            refine WL.val (by kernel_rfl) (.pointer (some ⟨g, 2, none⟩)) (by go_simp) ?_
            simp only [Act.put, List.setIfInBounds_toArray, List.set_cons_zero, List.set_cons_succ]
            refine WL.val (by kernel_rfl) (.slice pa A.ps.length pc) (by go_simp) ?_
            simp only [Act.put, List.setIfInBounds_toArray, List.set_cons_zero, List.set_cons_succ]
            refine WL.val (by kernel_rfl) (.int .i64 (A.ps.length : Int)) (by go_simp) ?_
            simp only [Act.put, List.setIfInBounds_toArray, List.set_cons_zero, List.set_cons_succ]
            refine WL.val (by kernel_rfl) (.bool false) (by go_simp) ?_
            simp only [Act.put, List.setIfInBounds_toArray, List.set_cons_zero, List.set_cons_succ]
            refine WL.nil ?_
            refine hK12 _ _ ?_
            refine wp_cond_false rfl ?_
            refine wp_exit ?_
            refine hK4 _ _ ?_
            refine wp_seq_k fun K13 hK13 => ?_
            refine wp_seq_k fun K14 hK14 => ?_
            refine wp_region_list (WL.out ?_)
            refine WL.val (by kernel_rfl) (.int .i64 0) (by go_simp) ?_
            simp only [Act.put, List.setIfInBounds_toArray, List.set_cons_zero, List.set_cons_succ]
            refine WL.nil ?_
            refine hK14 _ _ ?_
            refine wp_block ?_
            refine wp_loop (fun ac wq => ∃ (u : Nat) (y4 y55 y56 y57 y58 y59 y60 y61 y62 y63 y64 y65 y66 y67 y68 y69 y70 y71 y72 y73 : Value), ac = { tmps := #[.agg (ndA A.au A.ck (.slice pa A.ps.length pc) (.slice oa A.ops.length oc)), .agg (ndA B.au B.ck (.slice pb B.ps.length pd) (.slice ob B.ops.length od)), .pointer (some ⟨g, 0, none⟩), .pointer (some ⟨k, 0, none⟩), y4, .int .i64 (t : Int), .int .i64 (u : Int), .pointer (some ⟨g, 0, none⟩), .int .i64 A.au, .pointer (some ⟨k, 0, none⟩), .int .i64 B.au, .bool false, .bool false, .pointer (some ⟨g, 1, none⟩), .int .i64 A.ck, .pointer (some ⟨k, 1, none⟩), .int .i64 B.ck, .bool false, .bool false, .bool false, .pointer (some ⟨g, 2, none⟩), .slice pa A.ps.length pc, .int .i64 (A.ps.length : Int), .pointer (some ⟨k, 2, none⟩), .slice pb B.ps.length pd, .int .i64 (B.ps.length : Int), .bool false, .bool false, .bool false, .pointer (some ⟨g, 3, none⟩), .slice oa A.ops.length oc, .int .i64 (A.ops.length : Int), .pointer (some ⟨k, 3, none⟩), .slice ob B.ops.length od, .int .i64 (B.ops.length : Int), .bool false, .bool false, .int .i64 (t : Int), .pointer (some ⟨g, 2, none⟩), .slice pa A.ps.length pc, .int .i64 (A.ps.length : Int), .bool false, u42, u43, u44, u45, u46, u47, u48, u49, u50, u51, u52, u53, u54, y55, y56, y57, y58, y59, y60, y61, y62, y63, y64, y65, y66, y67, y68, y69, y70, y71, y72, y73], defers := [] } ∧ u ≤ A.ops.length ∧ (∀ i, i < u → sm (A.ops.getD i zeroOp) (B.ops.getD i zeroOp) = true) ∧ Below w2.heap.size w2 wq) (fun a _ => A.ops.length - (intOf (a.tmps.getD 6 undef)).toNat) ⟨0, u4, undef, undef, undef, undef, undef, undef, undef, undef, undef, undef, undef, undef, undef, undef, undef, undef, undef, undef, undef, rfl, by omega, (fun i hi => by omega), JB.out⟩ ?_
            rintro ac wq ⟨u, y4, y55, y56, y57, y58, y59, y60, y61, y62, y63, y64, y65, y66, y67, y68, y69, y70, y71, y72, y73, rfl, hu, hF, hC⟩
            have a3 := (HXa.out.below hC HXa.out.lt).c 3 (nd_3 _ _ _ _)
            by_cases hul : u < A.ops.length
            · have hul' : (u : Int) < (A.ops.length : Int) := by omega
              have hwr2 : IntKind.i64.wrap ((u : Int) + 1) = (u : Int) + 1 := by rw [IntKind.wrap_i64]; have := HA.out.lo; omega
              have hub : u < B.ops.length := by omega
              obtain ⟨ga, fa, rfl, hea⟩ := (HA2.out.below hC).ops.at hul
              obtain ⟨gb, fb, rfl, heb⟩ := (HB2.out.below hC).ops.at hub
              obtain ⟨x, hx⟩ : ∃ x, x = A.ops.getD u zeroOp := ⟨_, rfl⟩
              obtain ⟨y, hy⟩ : ∃ y, y = B.ops.getD u zeroOp := ⟨_, rfl⟩
              rw [← hx] at hea
              rw [← hy] at heb
              have hub' : (u : Int) < (B.ops.length : Int) := by omega
              have HS0 : Keep (∀ wx, Below wq.heap.size wq wx → wx.cell? ⟨g, 3, none⟩ = some (.slice (some ⟨ga, fa, none⟩) A.ops.length oc) ∧ wx.cell? ⟨k, 3, none⟩ = some (.slice (some ⟨gb, fb, none⟩) B.ops.length od) ∧ wx.rangeAt ga (fa + u * 37) (opL x) ∧ wx.rangeAt gb (fb + u * 37) (opL y)) := ⟨fun wx hb => ⟨((HXa.out.below hC HXa.out.lt).below hb (HXa.out.below hC HXa.out.lt).lt).c 3 (nd_3 _ _ _ _), ((HXb.out.below hC HXb.out.lt).below hb (HXb.out.below hC HXb.out.lt).lt).c 3 (nd_3 _ _ _ _), range_grown hea (Grown.below (S := fun _ => False) hb) (fun h => h), range_grown heb (Grown.below (S := fun _ => False) hb) (fun h => h)⟩⟩
              have Jx := Keep.mk hx
              have Jy := Keep.mk hy
              have JC := Keep.mk hC
              have JF := Keep.mk hF
              clear hea heb hx hy hC hF
              refine wp_seq_k fun K15 hK15 => ?_
              refine wp_seq_k fun K16 hK16 => ?_
              refine wp_region_list (WL.out ?_)
              refine WL.val (by kernel_rfl) (.int .i64 (u : Int)) (by go_simp) ?_
              simp only [Act.put, List.setIfInBounds_toArray, List.set_cons_zero, List.set_cons_succ]
              refine WL.val (by kernel_rfl) (.pointer (some ⟨g, 3, none⟩)) (by go_simp) ?_
              simp only [Act.put, List.setIfInBounds_toArray, List.set_cons_zero, List.set_cons_succ]
              refine WL.val (by kernel_rfl) (.slice (some ⟨ga, fa, none⟩) A.ops.length oc) (by go_simp) ?_
              simp only [Act.put, List.setIfInBounds_toArray, List.set_cons_zero, List.set_cons_succ]
              refine WL.val (by kernel_rfl) (.int .i64 (A.ops.length : Int)) (by go_simp) ?_
              simp only [Act.put, List.setIfInBounds_toArray, List.set_cons_zero, List.set_cons_succ]
              refine WL.val (by kernel_rfl) (.bool true) (by go_simp) ?_
              simp only [Act.put, List.setIfInBounds_toArray, List.set_cons_zero, List.set_cons_succ]
              refine WL.nil ?_
              refine hK16 _ _ ?_
              refine wp_cond_true rfl ?_
              refine wp_skip ?_
              refine hK15 _ _ ?_
              refine wp_seq_k fun K17 hK17 => ?_
              refine wp_block ?_
              refine wp_seq_k fun K18 hK18 => ?_
              have hD0 : Below wq.heap.size wq wq.drew := (Below.refl _ _).drew
              clear a3
              rcases Bool.eq_false_or_eq_true (sm x y) with hxy | hxy
              · skip
                refine wp_region_held_drew (S := fun wx => wx.cell? ⟨g, 3, none⟩ = some (.slice (some ⟨ga, fa, none⟩) A.ops.length oc) ∧ wx.cell? ⟨k, 3, none⟩ = some (.slice (some ⟨gb, fb, none⟩) B.ops.length od) ∧ wx.rangeAt ga (fa + u * 37) (opL x) ∧ wx.rangeAt gb (fb + u * 37) (opL y)) (by kernel_rfl) (HS0.out _ hD0) (fun hHeld => ?_)
                refine wpAnyH_take (i := 0) (oi := ⟨some 62, Op.fieldAddr 27 (Operand.tmp 2) 3, 0, _, _, none⟩) (v := .pointer (some ⟨g, 3, none⟩)) rfl (by kernel_rfl) (by kernel_rfl) (by kernel_rfl) (fun _ _ _ h => h) (Or.inl ⟨by rfl, fun w hS => by obtain ⟨hs1, hs2, hs3, hs4⟩ := hS; go_simp⟩) hHeld ?_
                simp only [Act.put, List.setIfInBounds_toArray, List.set_cons_zero, List.set_cons_succ]
                refine wpAnyH_take (i := 1) (oi := ⟨some 63, Op.load 25 (Operand.tmp 62), 25, _, _, none⟩) (v := .slice (some ⟨ga, fa, none⟩) A.ops.length oc) rfl (by kernel_rfl) (by kernel_rfl) (by kernel_rfl) (fun _ _ _ h => h) (Or.inl ⟨by rfl, fun w hS => by obtain ⟨hs1, hs2, hs3, hs4⟩ := hS; go_simp⟩) hHeld ?_
                simp only [Act.put, List.setIfInBounds_toArray, List.set_cons_zero, List.set_cons_succ]
                refine wpAnyH_take (i := 2) (oi := ⟨some 64, Op.move (Operand.tmp 6), 3, _, _, none⟩) (v := .int .i64 (u : Int)) rfl (by kernel_rfl) (by kernel_rfl) (by kernel_rfl) (fun _ _ _ h => h) (Or.inl ⟨by rfl, fun w hS => by obtain ⟨hs1, hs2, hs3, hs4⟩ := hS; go_simp⟩) hHeld ?_
                simp only [Act.put, List.setIfInBounds_toArray, List.set_cons_zero, List.set_cons_succ]
                refine wpAnyH_take (i := 3) (oi := ⟨some 65, Op.indexAddr 25 (Operand.tmp 63) (Operand.tmp 64), 0, _, _, none⟩) (v := .pointer (some ⟨ga, fa + u * 37, none⟩)) rfl (by kernel_rfl) (by kernel_rfl) (by kernel_rfl) (fun _ _ _ h => h) (Or.inl ⟨by rfl, fun w hS => by obtain ⟨hs1, hs2, hs3, hs4⟩ := hS; go_simp⟩) hHeld ?_
                simp only [Act.put, List.setIfInBounds_toArray, List.set_cons_zero, List.set_cons_succ]
                refine wpAnyH_take (i := 4) (oi := ⟨some 66, Op.load 79 (Operand.tmp 65), 79, _, _, none⟩) (v := .agg (opL x).toArray) rfl (by kernel_rfl) (by kernel_rfl) (by kernel_rfl) (fun _ _ _ h => h) (yieldsIf_load_mid (by rfl) 79 (Operand.tmp 65) rfl ga (fa + u * 37) rfl (opL x) _ (fun w hS => hS.2.2.1) Try.underlying79 rfl (Try.size79L x)) hHeld ?_
                simp only [Act.put, List.setIfInBounds_toArray, List.set_cons_zero, List.set_cons_succ]
                refine wpAnyH_take (i := 5) (oi := ⟨some 67, Op.fieldAddr 27 (Operand.tmp 3) 3, 0, _, _, none⟩) (v := .pointer (some ⟨k, 3, none⟩)) rfl (by kernel_rfl) (by kernel_rfl) (by kernel_rfl) (fun _ _ _ h => h) (Or.inl ⟨by rfl, fun w hS => by obtain ⟨hs1, hs2, hs3, hs4⟩ := hS; go_simp⟩) hHeld ?_
                simp only [Act.put, List.setIfInBounds_toArray, List.set_cons_zero, List.set_cons_succ]
                refine wpAnyH_take (i := 6) (oi := ⟨some 68, Op.load 25 (Operand.tmp 67), 25, _, _, none⟩) (v := .slice (some ⟨gb, fb, none⟩) B.ops.length od) rfl (by kernel_rfl) (by kernel_rfl) (by kernel_rfl) (fun _ _ _ h => h) (Or.inl ⟨by rfl, fun w hS => by obtain ⟨hs1, hs2, hs3, hs4⟩ := hS; go_simp⟩) hHeld ?_
                simp only [Act.put, List.setIfInBounds_toArray, List.set_cons_zero, List.set_cons_succ]
                refine wpAnyH_take (i := 7) (oi := ⟨some 69, Op.move (Operand.tmp 6), 3, _, _, none⟩) (v := .int .i64 (u : Int)) rfl (by kernel_rfl) (by kernel_rfl) (by kernel_rfl) (fun _ _ _ h => h) (Or.inl ⟨by rfl, fun w hS => by obtain ⟨hs1, hs2, hs3, hs4⟩ := hS; go_simp⟩) hHeld ?_
                simp only [Act.put, List.setIfInBounds_toArray, List.set_cons_zero, List.set_cons_succ]
                refine wpAnyH_take (i := 8) (oi := ⟨some 70, Op.indexAddr 25 (Operand.tmp 68) (Operand.tmp 69), 0, _, _, none⟩) (v := .pointer (some ⟨gb, fb + u * 37, none⟩)) rfl (by kernel_rfl) (by kernel_rfl) (by kernel_rfl) (fun _ _ _ h => h) (Or.inl ⟨by rfl, fun w hS => by obtain ⟨hs1, hs2, hs3, hs4⟩ := hS; go_simp⟩) hHeld ?_
                simp only [Act.put, List.setIfInBounds_toArray, List.set_cons_zero, List.set_cons_succ]
                refine wpAnyH_take (i := 9) (oi := ⟨some 71, Op.load 79 (Operand.tmp 70), 79, _, _, none⟩) (v := .agg (opL y).toArray) rfl (by kernel_rfl) (by kernel_rfl) (by kernel_rfl) (fun _ _ _ h => h) (yieldsIf_load_mid (by rfl) 79 (Operand.tmp 70) rfl gb (fb + u * 37) rfl (opL y) _ (fun w hS => hS.2.2.2) Try.underlying79 rfl (Try.size79L y)) hHeld ?_
                simp only [Act.put, List.setIfInBounds_toArray, List.set_cons_zero, List.set_cons_succ]
                refine wpAnyH_ready (rs := [10]) (by kernel_rfl) (by simp) ?_
                refine AllReadyH.cons (o := ⟨some 72, Op.call { callee := Callee.value (Operand.func 37), args := #[Operand.tmp 66, Operand.tmp 71], argTypes := #[79, 79] }, 4, _, _, none⟩) rfl (fun K hK => ?_) AllReadyH.nil
                rw [if_pos (by rfl)]
                refine wp_callF 37 _ _ rfl Try.in37 #[.agg (opA x), .agg (opA y)] (by simp [Act.eval, rng_load]) (fun vz wz => vz = .bool true ∧ Below wq.heap.size wq wz) ?_ ?_
                · refine (rsame_any x y wq.drew).mono ?_
                  rintro e wz ⟨rfl, h⟩
                  rw [hxy]
                  exact ⟨_, rfl, rfl, hD0.trans (h.mono hD0.size)⟩
                rintro vz w7 ⟨rfl, h7⟩
                have HB7 := Keep.mk h7
                clear h7
                refine hK.out _ _ (HS0.out _ HB7.out) fun hHeld2 => ?_
                clear hK
                simp only [Act.put, List.setIfInBounds_toArray, List.set_cons_zero, List.set_cons_succ]
                refine wpAnyH_take (i := 11) (oi := ⟨some 73, Op.unOp UnOp.not 4 (Operand.tmp 72), 4, _, _, none⟩) (v := .bool false) rfl (by kernel_rfl) (by kernel_rfl) (by kernel_rfl) (fun _ _ _ h => h) (Or.inl ⟨by rfl, fun w hS => by obtain ⟨hs1, hs2, hs3, hs4⟩ := hS; go_simp⟩) hHeld2 ?_
                simp only [Act.put, List.setIfInBounds_toArray, List.set_cons_zero, List.set_cons_succ]
                refine wpAnyH_done (by kernel_rfl) ?_ _
                refine hK18 _ _ ?_
                refine wp_cond_false rfl ?_
                refine wp_skip ?_
                refine hK17 _ _ ?_
                refine wp_region_list (WL.out ?_)
                refine WL.val (by kernel_rfl) (.int .i64 (u : Int)) (by go_simp) ?_
                simp only [Act.put, List.setIfInBounds_toArray, List.set_cons_zero, List.set_cons_succ]
                refine WL.val (by kernel_rfl) (.int .i64 ((u : Int) + 1)) (by go_simp) ?_
                simp only [Act.put, List.setIfInBounds_toArray, List.set_cons_zero, List.set_cons_succ]
                refine WL.val (by kernel_rfl) (.int .i64 ((u : Int) + 1)) (by go_simp) ?_
                simp only [Act.put, List.setIfInBounds_toArray, List.set_cons_zero, List.set_cons_succ]
                refine WL.nil ?_
                refine ⟨⟨u + 1, y4, .int .i64 (u : Int), .pointer (some ⟨g, 3, none⟩), .slice (some ⟨ga, fa, none⟩) A.ops.length oc, .int .i64 (A.ops.length : Int), .bool true, .int .i64 (u : Int), .int .i64 ((u : Int) + 1), .pointer (some ⟨g, 3, none⟩), .slice (some ⟨ga, fa, none⟩) A.ops.length oc, .int .i64 (u : Int), .pointer (some ⟨ga, fa + u * 37, none⟩), .agg (opL x).toArray, .pointer (some ⟨k, 3, none⟩), .slice (some ⟨gb, fb, none⟩) B.ops.length od, .int .i64 (u : Int), .pointer (some ⟨gb, fb + u * 37, none⟩), .agg (opL y).toArray, .bool true, .bool false, rfl, by omega, fun i hi => ?_, JC.out.trans (HB7.out.mono JC.out.size)⟩, ?_⟩
                · by_cases hit : i < u
                  · exact JF.out i hit
                  · rw [show i = u by omega, ← Jx.out, ← Jy.out]; exact hxy
                · simp only [intOf]; show A.ops.length - ((u : Int) + 1).toNat < A.ops.length - ((u : Int)).toNat; omega
              · skip
                refine wp_region_held_drew (S := fun wx => wx.cell? ⟨g, 3, none⟩ = some (.slice (some ⟨ga, fa, none⟩) A.ops.length oc) ∧ wx.cell? ⟨k, 3, none⟩ = some (.slice (some ⟨gb, fb, none⟩) B.ops.length od) ∧ wx.rangeAt ga (fa + u * 37) (opL x) ∧ wx.rangeAt gb (fb + u * 37) (opL y)) (by kernel_rfl) (HS0.out _ hD0) (fun hHeld => ?_)
                refine wpAnyH_take (i := 0) (oi := ⟨some 62, Op.fieldAddr 27 (Operand.tmp 2) 3, 0, _, _, none⟩) (v := .pointer (some ⟨g, 3, none⟩)) rfl (by kernel_rfl) (by kernel_rfl) (by kernel_rfl) (fun _ _ _ h => h) (Or.inl ⟨by rfl, fun w hS => by obtain ⟨hs1, hs2, hs3, hs4⟩ := hS; go_simp⟩) hHeld ?_
                simp only [Act.put, List.setIfInBounds_toArray, List.set_cons_zero, List.set_cons_succ]
                refine wpAnyH_take (i := 1) (oi := ⟨some 63, Op.load 25 (Operand.tmp 62), 25, _, _, none⟩) (v := .slice (some ⟨ga, fa, none⟩) A.ops.length oc) rfl (by kernel_rfl) (by kernel_rfl) (by kernel_rfl) (fun _ _ _ h => h) (Or.inl ⟨by rfl, fun w hS => by obtain ⟨hs1, hs2, hs3, hs4⟩ := hS; go_simp⟩) hHeld ?_
                simp only [Act.put, List.setIfInBounds_toArray, List.set_cons_zero, List.set_cons_succ]
                refine wpAnyH_take (i := 2) (oi := ⟨some 64, Op.move (Operand.tmp 6), 3, _, _, none⟩) (v := .int .i64 (u : Int)) rfl (by kernel_rfl) (by kernel_rfl) (by kernel_rfl) (fun _ _ _ h => h) (Or.inl ⟨by rfl, fun w hS => by obtain ⟨hs1, hs2, hs3, hs4⟩ := hS; go_simp⟩) hHeld ?_
                simp only [Act.put, List.setIfInBounds_toArray, List.set_cons_zero, List.set_cons_succ]
                refine wpAnyH_take (i := 3) (oi := ⟨some 65, Op.indexAddr 25 (Operand.tmp 63) (Operand.tmp 64), 0, _, _, none⟩) (v := .pointer (some ⟨ga, fa + u * 37, none⟩)) rfl (by kernel_rfl) (by kernel_rfl) (by kernel_rfl) (fun _ _ _ h => h) (Or.inl ⟨by rfl, fun w hS => by obtain ⟨hs1, hs2, hs3, hs4⟩ := hS; go_simp⟩) hHeld ?_
                simp only [Act.put, List.setIfInBounds_toArray, List.set_cons_zero, List.set_cons_succ]
                refine wpAnyH_take (i := 4) (oi := ⟨some 66, Op.load 79 (Operand.tmp 65), 79, _, _, none⟩) (v := .agg (opL x).toArray) rfl (by kernel_rfl) (by kernel_rfl) (by kernel_rfl) (fun _ _ _ h => h) (yieldsIf_load_mid (by rfl) 79 (Operand.tmp 65) rfl ga (fa + u * 37) rfl (opL x) _ (fun w hS => hS.2.2.1) Try.underlying79 rfl (Try.size79L x)) hHeld ?_
                simp only [Act.put, List.setIfInBounds_toArray, List.set_cons_zero, List.set_cons_succ]
                refine wpAnyH_take (i := 5) (oi := ⟨some 67, Op.fieldAddr 27 (Operand.tmp 3) 3, 0, _, _, none⟩) (v := .pointer (some ⟨k, 3, none⟩)) rfl (by kernel_rfl) (by kernel_rfl) (by kernel_rfl) (fun _ _ _ h => h) (Or.inl ⟨by rfl, fun w hS => by obtain ⟨hs1, hs2, hs3, hs4⟩ := hS; go_simp⟩) hHeld ?_
                simp only [Act.put, List.setIfInBounds_toArray, List.set_cons_zero, List.set_cons_succ]
                refine wpAnyH_take (i := 6) (oi := ⟨some 68, Op.load 25 (Operand.tmp 67), 25, _, _, none⟩) (v := .slice (some ⟨gb, fb, none⟩) B.ops.length od) rfl (by kernel_rfl) (by kernel_rfl) (by kernel_rfl) (fun _ _ _ h => h) (Or.inl ⟨by rfl, fun w hS => by obtain ⟨hs1, hs2, hs3, hs4⟩ := hS; go_simp⟩) hHeld ?_
                simp only [Act.put, List.setIfInBounds_toArray, List.set_cons_zero, List.set_cons_succ]
                refine wpAnyH_take (i := 7) (oi := ⟨some 69, Op.move (Operand.tmp 6), 3, _, _, none⟩) (v := .int .i64 (u : Int)) rfl (by kernel_rfl) (by kernel_rfl) (by kernel_rfl) (fun _ _ _ h => h) (Or.inl ⟨by rfl, fun w hS => by obtain ⟨hs1, hs2, hs3, hs4⟩ := hS; go_simp⟩) hHeld ?_
                simp only [Act.put, List.setIfInBounds_toArray, List.set_cons_zero, List.set_cons_succ]
                refine wpAnyH_take (i := 8) (oi := ⟨some 70, Op.indexAddr 25 (Operand.tmp 68) (Operand.tmp 69), 0, _, _, none⟩) (v := .pointer (some ⟨gb, fb + u * 37, none⟩)) rfl (by kernel_rfl) (by kernel_rfl) (by kernel_rfl) (fun _ _ _ h => h) (Or.inl ⟨by rfl, fun w hS => by obtain ⟨hs1, hs2, hs3, hs4⟩ := hS; go_simp⟩) hHeld ?_
                simp only [Act.put, List.setIfInBounds_toArray, List.set_cons_zero, List.set_cons_succ]
                refine wpAnyH_take (i := 9) (oi := ⟨some 71, Op.load 79 (Operand.tmp 70), 79, _, _, none⟩) (v := .agg (opL y).toArray) rfl (by kernel_rfl) (by kernel_rfl) (by kernel_rfl) (fun _ _ _ h => h) (yieldsIf_load_mid (by rfl) 79 (Operand.tmp 70) rfl gb (fb + u * 37) rfl (opL y) _ (fun w hS => hS.2.2.2) Try.underlying79 rfl (Try.size79L y)) hHeld ?_
                simp only [Act.put, List.setIfInBounds_toArray, List.set_cons_zero, List.set_cons_succ]
                refine wpAnyH_ready (rs := [10]) (by kernel_rfl) (by simp) ?_
                refine AllReadyH.cons (o := ⟨some 72, Op.call { callee := Callee.value (Operand.func 37), args := #[Operand.tmp 66, Operand.tmp 71], argTypes := #[79, 79] }, 4, _, _, none⟩) rfl (fun K hK => ?_) AllReadyH.nil
                rw [if_pos (by rfl)]
                refine wp_callF 37 _ _ rfl Try.in37 #[.agg (opA x), .agg (opA y)] (by simp [Act.eval, rng_load]) (fun vz wz => vz = .bool false ∧ Below wq.heap.size wq wz) ?_ ?_
                · refine (rsame_any x y wq.drew).mono ?_
                  rintro e wz ⟨rfl, h⟩
                  rw [hxy]
                  exact ⟨_, rfl, rfl, hD0.trans (h.mono hD0.size)⟩
                rintro vz w7 ⟨rfl, h7⟩
                have HB7 := Keep.mk h7
                clear h7
                refine hK.out _ _ (HS0.out _ HB7.out) fun hHeld2 => ?_
                clear hK
                simp only [Act.put, List.setIfInBounds_toArray, List.set_cons_zero, List.set_cons_succ]
                refine wpAnyH_take (i := 11) (oi := ⟨some 73, Op.unOp UnOp.not 4 (Operand.tmp 72), 4, _, _, none⟩) (v := .bool true) rfl (by kernel_rfl) (by kernel_rfl) (by kernel_rfl) (fun _ _ _ h => h) (Or.inl ⟨by rfl, fun w hS => by obtain ⟨hs1, hs2, hs3, hs4⟩ := hS; go_simp⟩) hHeld2 ?_
                simp only [Act.put, List.setIfInBounds_toArray, List.set_cons_zero, List.set_cons_succ]
                refine wpAnyH_done (by kernel_rfl) ?_ _
                refine hK18 _ _ ?_
                refine wp_cond_true rfl ?_
                refine wp_seq_k fun K19 hK19 => ?_
                refine wp_region_list (WL.out ?_)
                refine WL.val (by kernel_rfl) (.bool false) (by go_simp) ?_
                simp only [Act.put, List.setIfInBounds_toArray, List.set_cons_zero, List.set_cons_succ]
                refine WL.nil ?_
                refine hK19 _ _ ?_
                refine wp_ret ?_
                go_ret
                have hno : sameN A B = false := by
                  have : smL A.ops B.ops = false := by
                    rw [Bool.eq_false_iff]; intro h
                    simp only [smL, Bool.and_eq_true, List.all_eq_true, List.mem_range] at h
                    have := h.2 u hul
                    rw [← Jx.out, ← Jy.out, hxy] at this; cases this
                  simp [sameN, this]
                exact ⟨by rw [hno]; rfl, B2.out.trans ((JC.out.mono B2x.out).trans (HB7.out.mono (Nat.le_trans B2x.out JC.out.size)))⟩
            · have hul' : ¬ (u : Int) < (A.ops.length : Int) := by omega
              have hle3 : B.ops.length ≤ u := by omega
              refine wp_seq_k fun K20 hK20 => ?_
              refine wp_seq_k fun K21 hK21 => ?_
              refine wp_region_list (WL.out ?_)
              refine WL.val (by kernel_rfl) (.int .i64 (u : Int)) (by go_simp) ?_
              simp only [Act.put, List.setIfInBounds_toArray, List.set_cons_zero, List.set_cons_succ]
              refine WL.val (by kernel_rfl) (.pointer (some ⟨g, 3, none⟩)) (by go_simp) ?_
              simp only [Act.put, List.setIfInBounds_toArray, List.set_cons_zero, List.set_cons_succ]
              refine WL.val (by kernel_rfl) (.slice oa A.ops.length oc) (by go_simp) ?_
              simp only [Act.put, List.setIfInBounds_toArray, List.set_cons_zero, List.set_cons_succ]
              refine WL.val (by kernel_rfl) (.int .i64 (A.ops.length : Int)) (by go_simp) ?_
              simp only [Act.put, List.setIfInBounds_toArray, List.set_cons_zero, List.set_cons_succ]
              refine WL.val (by kernel_rfl) (.bool false) (by go_simp) ?_
              simp only [Act.put, List.setIfInBounds_toArray, List.set_cons_zero, List.set_cons_succ]
              refine WL.nil ?_
              refine hK21 _ _ ?_
              refine wp_cond_false rfl ?_
              refine wp_exit ?_
              refine hK13 _ _ ?_
              refine wp_seq_k fun K22 hK22 => ?_
              refine wp_region_list (WL.out ?_)
              refine WL.val (by kernel_rfl) (.bool true) (by go_simp) ?_
              simp only [Act.put, List.setIfInBounds_toArray, List.set_cons_zero, List.set_cons_succ]
              refine WL.nil ?_
              refine hK22 _ _ ?_
              refine wp_ret ?_
              go_ret
              have hyes : sameN A B = true := by
                have : smL A.ops B.ops = true := by
                  simp only [smL, Bool.and_eq_true, List.all_eq_true, List.mem_range, decide_eq_true_eq]
                  exact ⟨h1_28, fun i hi => hF i (by omega)⟩
                simp [sameN, this, h1_4, h1_10, hpe.out]
              exact ⟨by rw [hyes]; rfl, B2.out.trans (hC.mono B2x.out)⟩
        · have h1_28i : ¬ (A.ops.length : Int) = (B.ops.length : Int) := by omega
          refine WL.val (by kernel_rfl) (.bool true) (by go_simp) ?_
          simp only [Act.put, List.setIfInBounds_toArray, List.set_cons_zero, List.set_cons_succ]
          refine WL.val (by kernel_rfl) (.bool true) (by go_simp) ?_
          simp only [Act.put, List.setIfInBounds_toArray, List.set_cons_zero, List.set_cons_succ]
          refine WL.nil ?_
          refine hK3 _ _ ?_
          refine wp_cond_true rfl ?_
          refine wp_seq_k fun K23 hK23 => ?_
          refine wp_region_list (WL.out ?_)
          refine WL.val (by kernel_rfl) (.bool false) (by go_simp) ?_
          simp only [Act.put, List.setIfInBounds_toArray, List.set_cons_zero, List.set_cons_succ]
          refine WL.nil ?_
          refine hK23 _ _ ?_
          refine wp_ret ?_
          go_ret
          have hno : sameN A B = false := by simp [sameN, smL, h1_28]
          exact ⟨by rw [hno]; rfl, B2.out⟩
      · have h1_19i : ¬ (A.ps.length : Int) = (B.ps.length : Int) := by omega
        refine WL.val (by kernel_rfl) (.bool true) (by go_simp) ?_
        simp only [Act.put, List.setIfInBounds_toArray, List.set_cons_zero, List.set_cons_succ]
        refine WL.val (by kernel_rfl) (.bool true) (by go_simp) ?_
        simp only [Act.put, List.setIfInBounds_toArray, List.set_cons_zero, List.set_cons_succ]
        refine WL.val (by kernel_rfl) (.bool true) (by go_simp) ?_
        simp only [Act.put, List.setIfInBounds_toArray, List.set_cons_zero, List.set_cons_succ]
        refine WL.skip (by kernel_rfl) ?_
        simp only [Act.put, List.setIfInBounds_toArray, List.set_cons_zero, List.set_cons_succ]
        refine WL.skip (by kernel_rfl) ?_
        simp only [Act.put, List.setIfInBounds_toArray, List.set_cons_zero, List.set_cons_succ]
        refine WL.skip (by kernel_rfl) ?_
        simp only [Act.put, List.setIfInBounds_toArray, List.set_cons_zero, List.set_cons_succ]
        refine WL.skip (by kernel_rfl) ?_
        simp only [Act.put, List.setIfInBounds_toArray, List.set_cons_zero, List.set_cons_succ]
        refine WL.skip (by kernel_rfl) ?_
        simp only [Act.put, List.setIfInBounds_toArray, List.set_cons_zero, List.set_cons_succ]
        refine WL.skip (by kernel_rfl) ?_
        simp only [Act.put, List.setIfInBounds_toArray, List.set_cons_zero, List.set_cons_succ]
        refine WL.skip (by kernel_rfl) ?_
        simp only [Act.put, List.setIfInBounds_toArray, List.set_cons_zero, List.set_cons_succ]
        refine WL.val (by kernel_rfl) (.bool true) (by go_simp) ?_
        simp only [Act.put, List.setIfInBounds_toArray, List.set_cons_zero, List.set_cons_succ]
        refine WL.nil ?_
        refine hK3 _ _ ?_
        refine wp_cond_true rfl ?_
        refine wp_seq_k fun K24 hK24 => ?_
        refine wp_region_list (WL.out ?_)
        refine WL.val (by kernel_rfl) (.bool false) (by go_simp) ?_
        simp only [Act.put, List.setIfInBounds_toArray, List.set_cons_zero, List.set_cons_succ]
        refine WL.nil ?_
        refine hK24 _ _ ?_
        refine wp_ret ?_
        go_ret
        have hno : sameN A B = false := by
          have : A.ps ≠ B.ps := fun e => h1_19 (by rw [e])
          simp [sameN, this]
        exact ⟨by rw [hno]; rfl, B2.out⟩
    · skip
      refine WL.val (by kernel_rfl) (.bool true) (by go_simp) ?_
      simp only [Act.put, List.setIfInBounds_toArray, List.set_cons_zero, List.set_cons_succ]
      refine WL.val (by kernel_rfl) (.bool true) (by go_simp) ?_
      simp only [Act.put, List.setIfInBounds_toArray, List.set_cons_zero, List.set_cons_succ]
      refine WL.val (by kernel_rfl) (.bool true) (by go_simp) ?_
      simp only [Act.put, List.setIfInBounds_toArray, List.set_cons_zero, List.set_cons_succ]
      refine WL.skip (by kernel_rfl) ?_
      simp only [Act.put, List.setIfInBounds_toArray, List.set_cons_zero, List.set_cons_succ]
      refine WL.skip (by kernel_rfl) ?_
      simp only [Act.put, List.setIfInBounds_toArray, List.set_cons_zero, List.set_cons_succ]
      refine WL.skip (by kernel_rfl) ?_
      simp only [Act.put, List.setIfInBounds_toArray, List.set_cons_zero, List.set_cons_succ]
      refine WL.skip (by kernel_rfl) ?_
      simp only [Act.put, List.setIfInBounds_toArray, List.set_cons_zero, List.set_cons_succ]
      refine WL.skip (by kernel_rfl) ?_
      simp only [Act.put, List.setIfInBounds_toArray, List.set_cons_zero, List.set_cons_succ]
      refine WL.skip (by kernel_rfl) ?_
      simp only [Act.put, List.setIfInBounds_toArray, List.set_cons_zero, List.set_cons_succ]
      refine WL.skip (by kernel_rfl) ?_
      simp only [Act.put, List.setIfInBounds_toArray, List.set_cons_zero, List.set_cons_succ]
      refine WL.val (by kernel_rfl) (.bool true) (by go_simp) ?_
      simp only [Act.put, List.setIfInBounds_toArray, List.set_cons_zero, List.set_cons_succ]
      refine WL.val (by kernel_rfl) (.bool true) (by go_simp) ?_
      simp only [Act.put, List.setIfInBounds_toArray, List.set_cons_zero, List.set_cons_succ]
      refine WL.skip (by kernel_rfl) ?_
      simp only [Act.put, List.setIfInBounds_toArray, List.set_cons_zero, List.set_cons_succ]
      refine WL.skip (by kernel_rfl) ?_
      simp only [Act.put, List.setIfInBounds_toArray, List.set_cons_zero, List.set_cons_succ]
      refine WL.skip (by kernel_rfl) ?_
      simp only [Act.put, List.setIfInBounds_toArray, List.set_cons_zero, List.set_cons_succ]
      refine WL.skip (by kernel_rfl) ?_
      simp only [Act.put, List.setIfInBounds_toArray, List.set_cons_zero, List.set_cons_succ]
      refine WL.skip (by kernel_rfl) ?_
      simp only [Act.put, List.setIfInBounds_toArray, List.set_cons_zero, List.set_cons_succ]
      refine WL.skip (by kernel_rfl) ?_
      simp only [Act.put, List.setIfInBounds_toArray, List.set_cons_zero, List.set_cons_succ]
      refine WL.skip (by kernel_rfl) ?_
      simp only [Act.put, List.setIfInBounds_toArray, List.set_cons_zero, List.set_cons_succ]
      refine WL.val (by kernel_rfl) (.bool true) (by go_simp) ?_
      simp only [Act.put, List.setIfInBounds_toArray, List.set_cons_zero, List.set_cons_succ]
      refine WL.nil ?_
      refine hK3 _ _ ?_
      refine wp_cond_true rfl ?_
      refine wp_seq_k fun K25 hK25 => ?_
      refine wp_region_list (WL.out ?_)
      refine WL.val (by kernel_rfl) (.bool false) (by go_simp) ?_
      simp only [Act.put, List.setIfInBounds_toArray, List.set_cons_zero, List.set_cons_succ]
      refine WL.nil ?_
      refine hK25 _ _ ?_
      refine wp_ret ?_
      go_ret
      have hno : sameN A B = false := by simp [sameN, h1_10]
      exact ⟨by rw [hno]; rfl, B2.out⟩
  · skip
    refine WL.val (by kernel_rfl) (.bool true) (by go_simp) ?_
    simp only [Act.put, List.setIfInBounds_toArray, List.set_cons_zero, List.set_cons_succ]
    refine WL.val (by kernel_rfl) (.bool true) (by go_simp) ?_
    simp only [Act.put, List.setIfInBounds_toArray, List.set_cons_zero, List.set_cons_succ]
    refine WL.skip (by kernel_rfl) ?_
    simp only [Act.put, List.setIfInBounds_toArray, List.set_cons_zero, List.set_cons_succ]
    refine WL.skip (by kernel_rfl) ?_
    simp only [Act.put, List.setIfInBounds_toArray, List.set_cons_zero, List.set_cons_succ]
    refine WL.skip (by kernel_rfl) ?_
    simp only [Act.put, List.setIfInBounds_toArray, List.set_cons_zero, List.set_cons_succ]
    refine WL.skip (by kernel_rfl) ?_
    simp only [Act.put, List.setIfInBounds_toArray, List.set_cons_zero, List.set_cons_succ]
    refine WL.skip (by kernel_rfl) ?_
    simp only [Act.put, List.setIfInBounds_toArray, List.set_cons_zero, List.set_cons_succ]
    refine WL.val (by kernel_rfl) (.bool true) (by go_simp) ?_
    simp only [Act.put, List.setIfInBounds_toArray, List.set_cons_zero, List.set_cons_succ]
    refine WL.val (by kernel_rfl) (.bool true) (by go_simp) ?_
    simp only [Act.put, List.setIfInBounds_toArray, List.set_cons_zero, List.set_cons_succ]
    refine WL.skip (by kernel_rfl) ?_
    simp only [Act.put, List.setIfInBounds_toArray, List.set_cons_zero, List.set_cons_succ]
    refine WL.skip (by kernel_rfl) ?_
    simp only [Act.put, List.setIfInBounds_toArray, List.set_cons_zero, List.set_cons_succ]
    refine WL.skip (by kernel_rfl) ?_
    simp only [Act.put, List.setIfInBounds_toArray, List.set_cons_zero, List.set_cons_succ]
    refine WL.skip (by kernel_rfl) ?_
    simp only [Act.put, List.setIfInBounds_toArray, List.set_cons_zero, List.set_cons_succ]
    refine WL.skip (by kernel_rfl) ?_
    simp only [Act.put, List.setIfInBounds_toArray, List.set_cons_zero, List.set_cons_succ]
    refine WL.skip (by kernel_rfl) ?_
    simp only [Act.put, List.setIfInBounds_toArray, List.set_cons_zero, List.set_cons_succ]
    refine WL.skip (by kernel_rfl) ?_
    simp only [Act.put, List.setIfInBounds_toArray, List.set_cons_zero, List.set_cons_succ]
    refine WL.val (by kernel_rfl) (.bool true) (by go_simp) ?_
    simp only [Act.put, List.setIfInBounds_toArray, List.set_cons_zero, List.set_cons_succ]
    refine WL.val (by kernel_rfl) (.bool true) (by go_simp) ?_
    simp only [Act.put, List.setIfInBounds_toArray, List.set_cons_zero, List.set_cons_succ]
    refine WL.skip (by kernel_rfl) ?_
    simp only [Act.put, List.setIfInBounds_toArray, List.set_cons_zero, List.set_cons_succ]
    refine WL.skip (by kernel_rfl) ?_
    simp only [Act.put, List.setIfInBounds_toArray, List.set_cons_zero, List.set_cons_succ]
    refine WL.skip (by kernel_rfl) ?_
    simp only [Act.put, List.setIfInBounds_toArray, List.set_cons_zero, List.set_cons_succ]
    refine WL.skip (by kernel_rfl) ?_
    simp only [Act.put, List.setIfInBounds_toArray, List.set_cons_zero, List.set_cons_succ]
    refine WL.skip (by kernel_rfl) ?_
    simp only [Act.put, List.setIfInBounds_toArray, List.set_cons_zero, List.set_cons_succ]
    refine WL.skip (by kernel_rfl) ?_
    simp only [Act.put, List.setIfInBounds_toArray, List.set_cons_zero, List.set_cons_succ]
    refine WL.skip (by kernel_rfl) ?_
    simp only [Act.put, List.setIfInBounds_toArray, List.set_cons_zero, List.set_cons_succ]
    refine WL.val (by kernel_rfl) (.bool true) (by go_simp) ?_
    simp only [Act.put, List.setIfInBounds_toArray, List.set_cons_zero, List.set_cons_succ]
    refine WL.nil ?_
    refine hK3 _ _ ?_
    refine wp_cond_true rfl ?_
    refine wp_seq_k fun K26 hK26 => ?_
    refine wp_region_list (WL.out ?_)
    refine WL.val (by kernel_rfl) (.bool false) (by go_simp) ?_
    simp only [Act.put, List.setIfInBounds_toArray, List.set_cons_zero, List.set_cons_succ]
    refine WL.nil ?_
    refine hK26 _ _ ?_
    refine wp_ret ?_
    go_ret
    have hno : sameN A B = false := by simp [sameN, h1_4]
    exact ⟨by rw [hno]; rfl, B2.out⟩
theorem WL.appR {ops : Array Oper} {rest : List Oper} {o : Oper} {a : Act} {w : World} {Q : Exit → Act → World → Prop} (hw : Region.wanted o (yielded ops a.tmps) = true) (s x : Operand)
    (ho : o.op = .call { callee := .builtin .append, args := #[s, x], argTypes := #[28, 28] }) (v vx : Value) (l m : List Int)
    (hs : a.eval s = v) (hx : a.eval x = vx) (hown : Own w v l) (hrow : RowAt w vx m) (hb : l.length + m.length ≤ 200000000000000)
    (h : ∀ v' w', AppPost w v (l ++ m) v' w' → WL Try.prog ops Q rest (a.put o.dst v') w') : WL Try.prog ops Q (o :: rest) a w :=
  ⟨wpList_wanted hw fun K hK => by
    obtain ⟨v', w', hr, h2⟩ := run_app_row w o.type v vx l m hown hrow hb
    unfold Oper.wp execOp
    simp only [ho, resolve, invoke, builtin, Sem.run_bind, Sem.run_pure, Result.andThen_ok, List.map_toArray, List.map_cons, List.map_nil, hs, hx, hr]
    exact hK _ _ (h v' w' h2).out⟩
theorem own_blk {w : World} {g : Nat} {l : List Int} (h : Blk w g 5 (bv l).toArray) (hb : l.length ≤ 200000000000000) : Own w (.slice (some ⟨g, 0, none⟩) l.length l.length) l :=
  Own.mk h (Nat.le_refl _) (by unfold maxLen; omega) (by simp [bv_len]) (by simp [← bv_len])
theorem app_keeps {w w' : World} {g : Nat} {l m : List Int} {v' : Value} (hb : Blk w g 5 (bv l).toArray) (h : AppPost w (.slice (some ⟨g, 0, none⟩) l.length l.length) (l ++ m) v' w') : RowAt w' (.slice (some ⟨g, 0, none⟩) l.length l.length) l ∧ Grown w w' fun k => k = g := by
  rcases h.2 with ⟨h1, h2⟩ | ⟨_, h2⟩
  · have hg : v'.ownBlock = some g := h1
    refine ⟨?_, h2.mono fun k _ e => by simpa [Value.ownBlock] using e.symm⟩
    rcases h.1.2 with ⟨e1, h0⟩ | ⟨b, cap, cur, e1, _, h3, h4, h5, h6, h7⟩
    · rw [e1] at hg; simp [Value.ownBlock] at hg
    · rw [e1] at hg; simp [Value.ownBlock] at hg
      subst hg
      refine .inr (.inr ⟨b, 0, l.length, rfl, Nat.le_refl _, fun i hi => ?_⟩)
      rw [Nat.zero_add, cell_of_row w' b i cur 5 (0, 0) h3, ← Array.getElem?_toList]
      have e2 : (cur.toList.take ((l ++ m).length * 1))[i]? = (bv (l ++ m))[i]? := by rw [h7]
      rw [List.getElem?_take, if_pos (by simp; omega)] at e2
      rw [e2, bv_get _ _ (by simp; omega)]
      rw [List.getD_eq_getElem?_getD, List.getD_eq_getElem?_getD, List.getElem?_append_left hi]
  · exact ⟨row_of (hb.below h2 hb.lt) rfl, Grown.below h2⟩
theorem sl_run3 (base : Option Addr) (n : Nat) (wx : World) : (Instr.sliceAt 28 (.slice base n n) none (some (.int .i64 (n : Int))) (some (.int .i64 (n : Int)))).run Try.prog wx = .ok (.slice base n n) wx := by
  have hu : Try.prog.underlying 28 = some (.slice (Try.prog.elem 28)) := by rw [Try.elem28]; exact Try.underlying28
  rw [run_sliceAt_slice (P := Try.prog) (w := wx) 28 _ _ _ _ hu]
  have hs := Try.sizeOf5 wx
  simp [Instr.slice, run_underlying hu, Try.elem28, hs, go_sem]
set_option maxRecDepth 8000 in
set_option maxHeartbeats 4000000 in
theorem rest_any (N : NodeV) (vp vo vm : Value) (M : List Int) (c : Int) (w : World) (hN : NdAt w N vp vo) (hM : RowAt w vm M) (hMb : Byts M) (hMl : M.length ≤ 140737488355328) (hc : -9223372036854775808 ≤ c ∧ c ≤ 9223372036854775807) : Calls Try.prog 7 #[.agg (ndA N.au N.ck vp vo), vm, .int .i64 c] w fun e w' => e = .returned (.bool true) ∧ Below w.heap.size w w' := by
  obtain ⟨pa, pc, rfl⟩ := hN.ps.form
  have HN := Keep.mk hN
  obtain ⟨ma, mc, rfl⟩ := row_form hM
  have HM := Keep.mk hM
  have HMl := Keep.mk hMl
  have HbyN : Keep (chkN N = 0 → Byts (blkL N)) := ⟨fun h => blk_byts h hN.ok⟩
  have Hby0 := Keep.mk hMb
  clear hN hM hMb hMl hc
  go_enter Try.func7, Try.ntmps7
  refine wp_seq_k fun K1 hK1 => ?_
  refine wp_region_list (WL.out ?_)
  refine WL.box (by kernel_rfl) 27 (.tmp 0) rfl _ rfl ?_
  have HX1 := Keep.mk (Blk.new w 27 (ndA N.au N.ck (.slice pa N.ps.length pc) vo))
  have B1 := Keep.mk (below_new w (.cells (ndA N.au N.ck (.slice pa N.ps.length pc) vo) 27))
  generalize w.alloc (.cells (ndA N.au N.ck (.slice pa N.ps.length pc) vo) 27) = w1 at *
  have HN1 := Keep.mk (HN.out.below B1.out)
  have Hs1 : Keep (w.heap.size < w1.heap.size) := ⟨HX1.out.lt⟩
  have B1x : Keep (w.heap.size ≤ w1.heap.size) := ⟨B1.out.size⟩
  generalize hgg : w.heap.size = g at *
  simp only [Act.put, List.setIfInBounds_toArray, List.set_cons_zero, List.set_cons_succ]
  refine WL.val (by kernel_rfl) (.bool false) (by go_simp) ?_
  simp only [Act.put, List.setIfInBounds_toArray, List.set_cons_zero, List.set_cons_succ]
  refine WL.nil ?_
  refine hK1 _ _ ?_
  refine wp_seq_k fun K2 hK2 => ?_
  refine wp_seq_k fun K3 hK3 => ?_
  have HM1 := Keep.mk (HM.out.below (by rw [hgg]; exact B1.out))
  refine wp_region_list (WL.out ?_)
  refine WL.callF (by kernel_rfl) 9 _ _ rfl Try.in9 #[] (by simp) ?_
  refine (awake_any w1).mono ?_
  rintro e w2 ⟨rfl, hb2⟩
  refine ⟨_, rfl, ?_⟩
  have B2 := Keep.mk hb2
  have HN2 := Keep.mk (HN1.out.below hb2)
  have HX2 := Keep.mk (HX1.out.below hb2 HX1.out.lt)
  clear hb2
  simp only [Act.put, List.setIfInBounds_toArray, List.set_cons_zero, List.set_cons_succ]
  refine WL.val (by kernel_rfl) (.bool false) (by go_simp) ?_
  simp only [Act.put, List.setIfInBounds_toArray, List.set_cons_zero, List.set_cons_succ]
  refine WL.nil ?_
  refine hK3 _ _ ?_
  refine wp_cond_false rfl ?_
  refine wp_skip ?_
  refine hK2 _ _ ?_
  refine wp_seq_k fun K4 hK4 => ?_
  refine wp_region_list (WL.out ?_)
  refine WL.row (by kernel_rfl) 27 (.tmp 3) rfl g rfl 27 (ndA N.au N.ck (.slice pa N.ps.length pc) vo) _ HX2.out Try.underlying27 rfl (Try.size27B _ _ _ _) ?_
  simp only [Act.put, List.setIfInBounds_toArray, List.set_cons_zero, List.set_cons_succ]
  refine WL.callF (by kernel_rfl) 10 _ _ rfl Try.in10 #[.agg (ndA N.au N.ck (.slice pa N.ps.length pc) vo)] (by simp [Act.eval]) ?_
  refine (encode_any N _ vo w2 HN2.out).mono ?_
  rintro e w3 ⟨hb3, (⟨hch, rfl⟩ | ⟨hch, hlong, rfl⟩ | ⟨hch, hlen, gb, hgb, rfl, hblk⟩)⟩
  · refine ⟨_, rfl, ?_⟩
    have B3 : Keep (Below w1.heap.size w1 w3) := ⟨B2.out.trans (hb3.mono B2.out.size)⟩
    simp only [Act.put, List.setIfInBounds_toArray, List.set_cons_zero, List.set_cons_succ]
    refine WL.val (by kernel_rfl) (.tuple #[.slice none 0 0, .int .i64 (chkN N)]) (by go_simp) ?_
    simp only [Act.put, List.setIfInBounds_toArray, List.set_cons_zero, List.set_cons_succ]
    refine WL.val (by kernel_rfl) (.slice none 0 0) (by go_simp) ?_
    simp only [Act.put, List.setIfInBounds_toArray, List.set_cons_zero, List.set_cons_succ]
    refine WL.val (by kernel_rfl) (.int .i64 (chkN N)) (by go_simp) ?_
    simp only [Act.put, List.setIfInBounds_toArray, List.set_cons_zero, List.set_cons_succ]
    refine WL.val (by kernel_rfl) (.slice none 0 0) (by go_simp) ?_
    simp only [Act.put, List.setIfInBounds_toArray, List.set_cons_zero, List.set_cons_succ]
    refine WL.val (by kernel_rfl) (.int .i64 (chkN N)) (by go_simp) ?_
    simp only [Act.put, List.setIfInBounds_toArray, List.set_cons_zero, List.set_cons_succ]
    refine WL.nil ?_
    refine hK4 _ _ ?_
    refine wp_seq_k fun K5 hK5 => ?_
    refine wp_seq_k fun K6 hK6 => ?_
    refine wp_region_list (WL.out ?_)
    refine WL.val (by kernel_rfl) (.int .i64 (chkN N)) (by go_simp) ?_
    simp only [Act.put, List.setIfInBounds_toArray, List.set_cons_zero, List.set_cons_succ]
    refine WL.val (by kernel_rfl) (.bool true) (by go_simp) ?_
    simp only [Act.put, List.setIfInBounds_toArray, List.set_cons_zero, List.set_cons_succ]
    refine WL.nil ?_
    refine hK6 _ _ ?_
    refine wp_cond_true rfl ?_
    refine wp_seq_k fun K7 hK7 => ?_
    refine wp_region_list (WL.out ?_)
    refine WL.val (by kernel_rfl) (.bool true) (by go_simp) ?_
    simp only [Act.put, List.setIfInBounds_toArray, List.set_cons_zero, List.set_cons_succ]
    refine WL.nil ?_
    refine hK7 _ _ ?_
    refine wp_ret ?_
    go_ret
    exact ⟨rfl, B1.out.trans (B3.out.mono B1x.out)⟩
  · refine ⟨_, rfl, ?_⟩
    have B3 : Keep (Below w1.heap.size w1 w3) := ⟨B2.out.trans (hb3.mono B2.out.size)⟩
    simp only [Act.put, List.setIfInBounds_toArray, List.set_cons_zero, List.set_cons_succ]
    refine WL.val (by kernel_rfl) (.tuple #[.slice none 0 0, .int .i64 4]) (by go_simp) ?_
    simp only [Act.put, List.setIfInBounds_toArray, List.set_cons_zero, List.set_cons_succ]
    refine WL.val (by kernel_rfl) (.slice none 0 0) (by go_simp) ?_
    simp only [Act.put, List.setIfInBounds_toArray, List.set_cons_zero, List.set_cons_succ]
    refine WL.val (by kernel_rfl) (.int .i64 4) (by go_simp) ?_
    simp only [Act.put, List.setIfInBounds_toArray, List.set_cons_zero, List.set_cons_succ]
    refine WL.val (by kernel_rfl) (.slice none 0 0) (by go_simp) ?_
    simp only [Act.put, List.setIfInBounds_toArray, List.set_cons_zero, List.set_cons_succ]
    refine WL.val (by kernel_rfl) (.int .i64 4) (by go_simp) ?_
    simp only [Act.put, List.setIfInBounds_toArray, List.set_cons_zero, List.set_cons_succ]
    refine WL.nil ?_
    refine hK4 _ _ ?_
    refine wp_seq_k fun K8 hK8 => ?_
    refine wp_seq_k fun K9 hK9 => ?_
    refine wp_region_list (WL.out ?_)
    refine WL.val (by kernel_rfl) (.int .i64 4) (by go_simp) ?_
    simp only [Act.put, List.setIfInBounds_toArray, List.set_cons_zero, List.set_cons_succ]
    refine WL.val (by kernel_rfl) (.bool true) (by go_simp) ?_
    simp only [Act.put, List.setIfInBounds_toArray, List.set_cons_zero, List.set_cons_succ]
    refine WL.nil ?_
    refine hK9 _ _ ?_
    refine wp_cond_true rfl ?_
    refine wp_seq_k fun K10 hK10 => ?_
    refine wp_region_list (WL.out ?_)
    refine WL.val (by kernel_rfl) (.bool true) (by go_simp) ?_
    simp only [Act.put, List.setIfInBounds_toArray, List.set_cons_zero, List.set_cons_succ]
    refine WL.nil ?_
    refine hK10 _ _ ?_
    refine wp_ret ?_
    go_ret
    exact ⟨rfl, B1.out.trans (B3.out.mono B1x.out)⟩
  · refine ⟨_, rfl, ?_⟩
    have B3 : Keep (Below w1.heap.size w1 w3) := ⟨B2.out.trans (hb3.mono B2.out.size)⟩
    have Hch := Keep.mk hch
    have Hlen := Keep.mk hlen
    have Hgb : Keep (w1.heap.size ≤ gb) := ⟨Nat.le_trans B2.out.size hgb⟩
    have HB3 := Keep.mk hblk
    have HM3 := Keep.mk (HM1.out.below B3.out)
    clear hch hgb hblk hb3
    simp only [Act.put, List.setIfInBounds_toArray, List.set_cons_zero, List.set_cons_succ]
    refine WL.val (by kernel_rfl) (.tuple #[.slice (some ⟨gb, 0, none⟩) (blkL N).length (blkL N).length, .int .i64 0]) (by go_simp) ?_
    simp only [Act.put, List.setIfInBounds_toArray, List.set_cons_zero, List.set_cons_succ]
    refine WL.val (by kernel_rfl) (.slice (some ⟨gb, 0, none⟩) (blkL N).length (blkL N).length) (by go_simp) ?_
    simp only [Act.put, List.setIfInBounds_toArray, List.set_cons_zero, List.set_cons_succ]
    refine WL.val (by kernel_rfl) (.int .i64 0) (by go_simp) ?_
    simp only [Act.put, List.setIfInBounds_toArray, List.set_cons_zero, List.set_cons_succ]
    refine WL.val (by kernel_rfl) (.slice (some ⟨gb, 0, none⟩) (blkL N).length (blkL N).length) (by go_simp) ?_
    simp only [Act.put, List.setIfInBounds_toArray, List.set_cons_zero, List.set_cons_succ]
    refine WL.val (by kernel_rfl) (.int .i64 0) (by go_simp) ?_
    simp only [Act.put, List.setIfInBounds_toArray, List.set_cons_zero, List.set_cons_succ]
    refine WL.nil ?_
    refine hK4 _ _ ?_
    refine wp_seq_k fun K11 hK11 => ?_
    refine wp_seq_k fun K12 hK12 => ?_
    refine wp_region_list (WL.out ?_)
    refine WL.val (by kernel_rfl) (.int .i64 0) (by go_simp) ?_
    simp only [Act.put, List.setIfInBounds_toArray, List.set_cons_zero, List.set_cons_succ]
    refine WL.val (by kernel_rfl) (.bool false) (by go_simp) ?_
    simp only [Act.put, List.setIfInBounds_toArray, List.set_cons_zero, List.set_cons_succ]
    refine WL.nil ?_
    refine hK12 _ _ ?_
    refine wp_cond_false rfl ?_
    refine wp_skip ?_
    refine hK11 _ _ ?_
    refine wp_seq_k fun K13 hK13 => ?_
    refine wp_seq_k fun K14 hK14 => ?_
    refine wp_region_list (WL.out ?_)
    refine WL.val (by kernel_rfl) (.slice ma M.length mc) (by go_simp) ?_
    simp only [Act.put, List.setIfInBounds_toArray, List.set_cons_zero, List.set_cons_succ]
    refine WL.val (by kernel_rfl) (.int .i64 (M.length : Int)) (by go_simp) ?_
    simp only [Act.put, List.setIfInBounds_toArray, List.set_cons_zero, List.set_cons_succ]
    by_cases h6_2 : 0 < M.length
    · have h6_2i : (0 : Int) < (M.length : Int) := by omega
      have hwad : IntKind.i64.wrap (((blkL N).length : Int) + (M.length : Int)) = ((blkL N).length : Int) + (M.length : Int) := by rw [IntKind.wrap_i64]; have := Hlen.out; have := HMl.out; omega
      refine WL.val (by kernel_rfl) (.bool true) (by go_simp) ?_
      simp only [Act.put, List.setIfInBounds_toArray, List.set_cons_zero, List.set_cons_succ]
      refine WL.val (by kernel_rfl) (.bool true) (by go_simp) ?_
      simp only [Act.put, List.setIfInBounds_toArray, List.set_cons_zero, List.set_cons_succ]
      refine WL.val (by kernel_rfl) (.slice (some ⟨gb, 0, none⟩) (blkL N).length (blkL N).length) (by go_simp) ?_
      simp only [Act.put, List.setIfInBounds_toArray, List.set_cons_zero, List.set_cons_succ]
      refine WL.val (by kernel_rfl) (.int .i64 ((blkL N).length : Int)) (by go_simp) ?_
      simp only [Act.put, List.setIfInBounds_toArray, List.set_cons_zero, List.set_cons_succ]
      refine WL.val (by kernel_rfl) (.slice ma M.length mc) (by go_simp) ?_
      simp only [Act.put, List.setIfInBounds_toArray, List.set_cons_zero, List.set_cons_succ]
      refine WL.val (by kernel_rfl) (.int .i64 (M.length : Int)) (by go_simp) ?_
      simp only [Act.put, List.setIfInBounds_toArray, List.set_cons_zero, List.set_cons_succ]
      refine WL.val (by kernel_rfl) (.int .i64 (((blkL N).length : Int) + (M.length : Int))) (by go_simp) ?_
      simp only [Act.put, List.setIfInBounds_toArray, List.set_cons_zero, List.set_cons_succ]
      by_cases h6_9 : (blkL N).length + M.length ≤ 1048576
      · have h6_9i : ((blkL N).length : Int) + (M.length : Int) ≤ 1048576 := by omega
        refine WL.val (by kernel_rfl) (.bool true) (by go_simp) ?_
        simp only [Act.put, List.setIfInBounds_toArray, List.set_cons_zero, List.set_cons_succ]
        refine WL.val (by kernel_rfl) (.bool true) (by go_simp) ?_
        simp only [Act.put, List.setIfInBounds_toArray, List.set_cons_zero, List.set_cons_succ]
        refine WL.nil ?_
        refine hK14 _ _ ?_
        refine wp_cond_true rfl ?_
        refine wp_seq_k fun K15 hK15 => ?_
        have hs3 := sl_run3 (some ⟨gb, 0, none⟩) (blkL N).length
        refine wp_region_list (WL.out ?_)
        refine WL.val (by kernel_rfl) (.slice (some ⟨gb, 0, none⟩) (blkL N).length (blkL N).length) (by go_simp) ?_
        simp only [Act.put, List.setIfInBounds_toArray, List.set_cons_zero, List.set_cons_succ]
        refine WL.val (by kernel_rfl) (.slice (some ⟨gb, 0, none⟩) (blkL N).length (blkL N).length) (by go_simp) ?_
        simp only [Act.put, List.setIfInBounds_toArray, List.set_cons_zero, List.set_cons_succ]
        refine WL.val (by kernel_rfl) (.int .i64 ((blkL N).length : Int)) (by go_simp) ?_
        simp only [Act.put, List.setIfInBounds_toArray, List.set_cons_zero, List.set_cons_succ]
        refine WL.val (by kernel_rfl) (.slice (some ⟨gb, 0, none⟩) (blkL N).length (blkL N).length) (by go_simp) ?_
        simp only [Act.put, List.setIfInBounds_toArray, List.set_cons_zero, List.set_cons_succ]
        refine WL.val (by kernel_rfl) (.int .i64 ((blkL N).length : Int)) (by go_simp) ?_
        simp only [Act.put, List.setIfInBounds_toArray, List.set_cons_zero, List.set_cons_succ]
        refine WL.val (by kernel_rfl) (.slice (some ⟨gb, 0, none⟩) (blkL N).length (blkL N).length) (by go_simp) ?_
        simp only [Act.put, List.setIfInBounds_toArray, List.set_cons_zero, List.set_cons_succ]
        refine WL.val (by kernel_rfl) (.slice ma M.length mc) (by go_simp) ?_
        simp only [Act.put, List.setIfInBounds_toArray, List.set_cons_zero, List.set_cons_succ]
        refine WL.appR (by kernel_rfl) (.tmp 43) (.tmp 44) rfl (.slice (some ⟨gb, 0, none⟩) (blkL N).length (blkL N).length) (.slice ma M.length mc) (blkL N) M rfl rfl (own_blk HB3.out (by have := Hlen.out; omega)) HM3.out (by have := Hlen.out; omega) ?_
        intro v4 w4 h4
        obtain ⟨hk1, hk2⟩ := app_keeps HB3.out h4
        have HR4 := Keep.mk hk1
        have B4 : Keep (Below w1.heap.size w1 w4) := ⟨B3.out.trans (hk2.to_below (fun k hk e => by have := Hgb.out; omega) B3.out.size)⟩
        have HV4 := Keep.mk h4.1.row
        clear hk1 hk2 h4 hs3
        simp only [Act.put, List.setIfInBounds_toArray, List.set_cons_zero, List.set_cons_succ]
        refine WL.callF (by kernel_rfl) 16 _ _ rfl Try.in16 #[v4] (by simp [Act.eval]) ?_
        refine (decode_any v4 (blkL N ++ M) w4 HV4.out ((HbyN.out Hch.out).app Hby0.out)).mono ?_
        rintro e w5 h5
        obtain ⟨q5, hq5, rfl, hbad5, hb5⟩ : ∃ q, w4.heap.size ≤ q ∧ e = .returned (.tuple #[.agg (ndA 0 0 noS noS), err q]) ∧ BadAt w5 q 23 (blkL N).length ∧ Below w4.heap.size w4 w5 := by
          have hd := decR_there Hch.out HN.out.ok M
          rw [if_neg (by intro e0; rw [e0] at h6_2; exact absurd h6_2 (by decide))] at hd
          have hl : ¬ 1048576 < (blkL N ++ M).length := by rw [List.length_append]; omega
          have hbr : badR (blkL N ++ M) = (23, (blkL N).length) := by unfold badR; rw [if_neg hl, hd]
          unfold DecPost at h5
          rw [hbr, hd] at h5
          rcases h5 with ⟨_, h5, _⟩ | ⟨_, h5⟩
          · exact absurd (show (23 : Int) = 0 from h5) (by decide)
          · exact h5
        refine ⟨_, rfl, ?_⟩
        clear h5
        unfold err
        have HBd5 := Keep.mk hbad5
        have B5 : Keep (Below w1.heap.size w1 w5) := ⟨B4.out.trans (hb5.mono B4.out.size)⟩
        have HR5 := Keep.mk (HR4.out.below hb5)
        clear hbad5 hb5
        simp only [Act.put, List.setIfInBounds_toArray, List.set_cons_zero, List.set_cons_succ]
        refine WL.val (by kernel_rfl) (.tuple #[.agg (ndA 0 0 noS noS), .iface 68 (ptr q5)]) (by go_simp) ?_
        simp only [Act.put, List.setIfInBounds_toArray, List.set_cons_zero, List.set_cons_succ]
        refine WL.val (by kernel_rfl) (.agg (ndA 0 0 noS noS)) (by go_simp) ?_
        simp only [Act.put, List.setIfInBounds_toArray, List.set_cons_zero, List.set_cons_succ]
        refine WL.val (by kernel_rfl) (.iface 68 (ptr q5)) (by go_simp) ?_
        simp only [Act.put, List.setIfInBounds_toArray, List.set_cons_zero, List.set_cons_succ]
        refine WL.new (by kernel_rfl) 27 rfl _ Try.new27N ?_
        simp only [Act.put, List.setIfInBounds_toArray, List.set_cons_zero, List.set_cons_succ]
        refine WL.storeR (by kernel_rfl) 27 (.tmp 9) (.tmp 47) rfl w5.heap.size (ndA 0 0 noS noS) rfl rfl 27 (ndA 0 0 noS noS) (Blk.new w5 27 _) (Try.size27B _ _ _ _) rfl (nd_one 0 0 none 0 0 none 0 0) ?_
        have HN6 := Keep.mk ((Blk.new w5 27 (ndA 0 0 noS noS)).setRow (ndA 0 0 noS noS))
        have BS6 : Keep (Below w5.heap.size w5 ((w5.alloc (.cells (ndA 0 0 noS noS) 27)).setRow w5.heap.size (ndA 0 0 noS noS))) := ⟨below_setRow (below_new w5 _) (Nat.le_refl _) _⟩
        generalize (w5.alloc (.cells (ndA 0 0 noS noS) 27)).setRow w5.heap.size (ndA 0 0 noS noS) = w6 at *
        have B6 : Keep (Below w1.heap.size w1 w6) := ⟨B5.out.trans (BS6.out.mono B5.out.size)⟩
        have HR6 := Keep.mk (HR5.out.below BS6.out)
        have HBd6 : Keep (BadAt w6 q5 23 (blkL N).length) := ⟨HBd5.out.below BS6.out HBd5.out.lt⟩
        simp only [Act.put]
        refine WL.val (by kernel_rfl) (.iface 68 (ptr q5)) (by go_simp) ?_
        simp only [Act.put, List.setIfInBounds_toArray, List.set_cons_zero, List.set_cons_succ]
        refine WL.nil ?_
        refine hK15 _ _ ?_
        refine wp_seq_k fun K16 hK16 => ?_
        refine wp_region_list (WL.out ?_)
        refine WL.val (by kernel_rfl) (.iface 68 (ptr q5)) (by go_simp) ?_
        simp only [Act.put, List.setIfInBounds_toArray, List.set_cons_zero, List.set_cons_succ]
        refine WL.callF (by kernel_rfl) 21 _ _ rfl Try.in21 #[.iface 68 (ptr q5)] (by simp [Act.eval]) ?_
        refine (told_err q5 23 (blkL N).length w6 HBd6.out (by decide)).mono ?_
        rintro e w7 ⟨rfl, hb7⟩
        refine ⟨_, rfl, ?_⟩
        have B7 : Keep (Below w1.heap.size w1 w7) := ⟨B6.out.trans (hb7.mono B6.out.size)⟩
        have HR7 := Keep.mk (HR6.out.below hb7)
        have HN7 := Keep.mk (HN6.out.below hb7 HN6.out.lt)
        clear hb7
        simp only [Act.put, List.setIfInBounds_toArray, List.set_cons_zero, List.set_cons_succ]
        refine WL.val (by kernel_rfl) (.tuple #[.agg (erA 23 ((blkL N).length : Int)), .bool true]) (by go_simp) ?_
        simp only [Act.put, List.setIfInBounds_toArray, List.set_cons_zero, List.set_cons_succ]
        refine WL.val (by kernel_rfl) (.agg (erA 23 ((blkL N).length : Int))) (by go_simp) ?_
        simp only [Act.put, List.setIfInBounds_toArray, List.set_cons_zero, List.set_cons_succ]
        refine WL.val (by kernel_rfl) (.bool true) (by go_simp) ?_
        simp only [Act.put, List.setIfInBounds_toArray, List.set_cons_zero, List.set_cons_succ]
        refine WL.new (by kernel_rfl) 49 rfl _ Try.new49E ?_
        simp only [Act.put, List.setIfInBounds_toArray, List.set_cons_zero, List.set_cons_succ]
        refine WL.storeR (by kernel_rfl) 49 (.tmp 11) (.tmp 52) rfl w7.heap.size (erA 23 ((blkL N).length : Int)) rfl rfl 49 (erA 0 0) (Blk.new w7 49 _) (Try.size49B _ _) (erA_sizes _ _ _ _) (erA_one _ _) ?_
        have HE8 := Keep.mk ((Blk.new w7 49 (erA 0 0)).setRow (erA 23 ((blkL N).length : Int)))
        have BS8 : Keep (Below w7.heap.size w7 ((w7.alloc (.cells (erA 0 0) 49)).setRow w7.heap.size (erA 23 ((blkL N).length : Int)))) := ⟨below_setRow (below_new w7 _) (Nat.le_refl _) _⟩
        generalize (w7.alloc (.cells (erA 0 0) 49)).setRow w7.heap.size (erA 23 ((blkL N).length : Int)) = w8 at *
        have B8 : Keep (Below w1.heap.size w1 w8) := ⟨B7.out.trans (BS8.out.mono B7.out.size)⟩
        have HR8 := Keep.mk (HR7.out.below BS8.out)
        have HN8 := Keep.mk (HN7.out.below BS8.out HN7.out.lt)
        have z0 : w8.cell? ⟨w7.heap.size, 0, none⟩ = some (.int .i64 23) := HE8.out.c 0 rfl
        have z1 : w8.cell? ⟨w7.heap.size, 1, none⟩ = some (.int .i64 ((blkL N).length : Int)) := HE8.out.c 1 rfl
        simp only [Act.put]
        refine WL.val (by kernel_rfl) (.bool true) (by go_simp) ?_
        simp only [Act.put, List.setIfInBounds_toArray, List.set_cons_zero, List.set_cons_succ]
        refine WL.nil ?_
        refine hK16 _ _ ?_
        refine wp_seq_k fun K17 hK17 => ?_
        refine wp_region_list (WL.out ?_)
        refine WL.val (by kernel_rfl) (.bool true) (by go_simp) ?_
        simp only [Act.put, List.setIfInBounds_toArray, List.set_cons_zero, List.set_cons_succ]
        refine WL.val (by kernel_rfl) (.bool false) (by go_simp) ?_
        simp only [Act.put, List.setIfInBounds_toArray, List.set_cons_zero, List.set_cons_succ]
        refine WL.val (by kernel_rfl) (.bool false) (by go_simp) ?_
        simp only [Act.put, List.setIfInBounds_toArray, List.set_cons_zero, List.set_cons_succ]
        refine WL.val (by kernel_rfl) (.pointer (some ⟨w7.heap.size, 0, none⟩)) (by go_simp) ?_
        simp only [Act.put, List.setIfInBounds_toArray, List.set_cons_zero, List.set_cons_succ]
        refine WL.val (by kernel_rfl) (.int .i64 23) (by go_simp) ?_
        simp only [Act.put, List.setIfInBounds_toArray, List.set_cons_zero, List.set_cons_succ]
        refine WL.val (by kernel_rfl) (.bool false) (by go_simp) ?_
        simp only [Act.put, List.setIfInBounds_toArray, List.set_cons_zero, List.set_cons_succ]
        refine WL.val (by kernel_rfl) (.bool false) (by go_simp) ?_
        simp only [Act.put, List.setIfInBounds_toArray, List.set_cons_zero, List.set_cons_succ]
        refine WL.val (by kernel_rfl) (.bool false) (by go_simp) ?_
        simp only [Act.put, List.setIfInBounds_toArray, List.set_cons_zero, List.set_cons_succ]
        refine WL.val (by kernel_rfl) (.pointer (some ⟨w7.heap.size, 1, none⟩)) (by go_simp) ?_
        simp only [Act.put, List.setIfInBounds_toArray, List.set_cons_zero, List.set_cons_succ]
        refine WL.val (by kernel_rfl) (.int .i64 ((blkL N).length : Int)) (by go_simp) ?_
        simp only [Act.put, List.setIfInBounds_toArray, List.set_cons_zero, List.set_cons_succ]
        refine WL.val (by kernel_rfl) (.slice (some ⟨gb, 0, none⟩) (blkL N).length (blkL N).length) (by go_simp) ?_
        simp only [Act.put, List.setIfInBounds_toArray, List.set_cons_zero, List.set_cons_succ]
        refine WL.val (by kernel_rfl) (.int .i64 ((blkL N).length : Int)) (by go_simp) ?_
        simp only [Act.put, List.setIfInBounds_toArray, List.set_cons_zero, List.set_cons_succ]
        refine WL.val (by kernel_rfl) (.bool false) (by go_simp) ?_
        simp only [Act.put, List.setIfInBounds_toArray, List.set_cons_zero, List.set_cons_succ]
        refine WL.val (by kernel_rfl) (.bool false) (by go_simp) ?_
        simp only [Act.put, List.setIfInBounds_toArray, List.set_cons_zero, List.set_cons_succ]
        refine WL.val (by kernel_rfl) (.bool false) (by go_simp) ?_
        simp only [Act.put, List.setIfInBounds_toArray, List.set_cons_zero, List.set_cons_succ]
        refine WL.row (by kernel_rfl) 27 (.tmp 9) rfl w5.heap.size rfl 27 (ndA 0 0 noS noS) _ HN8.out Try.underlying27 rfl (Try.size27B _ _ _ _) ?_
        simp only [Act.put, List.setIfInBounds_toArray, List.set_cons_zero, List.set_cons_succ]
        refine WL.bld (by kernel_rfl) 27 _ rfl [] (by simp) _ nd_built0 ?_
        simp only [Act.put, List.setIfInBounds_toArray, List.set_cons_zero, List.set_cons_succ]
        refine WL.callF (by kernel_rfl) 18 _ _ rfl Try.in18 #[.agg (ndA 0 0 noS noS), .agg (ndA 0 0 noS noS)] (by simp [Act.eval]) ?_
        refine (rsame_node zeroN zeroN noS noS noS noS w8 (ndAt_empty w8 zeroN rfl rfl (by decide) (by decide)) (ndAt_empty w8 zeroN rfl rfl (by decide) (by decide))).mono ?_
        rintro e w9 ⟨rfl, hbz⟩
        refine ⟨_, rfl, ?_⟩
        rw [sameN_refl]
        have B9 : Keep (Below w1.heap.size w1 w9) := ⟨B8.out.trans (hbz.mono B8.out.size)⟩
        have BS9 := Keep.mk hbz
        clear hbz
        have HR9 := Keep.mk (HR8.out.below BS9.out)
        clear z0 z1
        simp only [Act.put, List.setIfInBounds_toArray, List.set_cons_zero, List.set_cons_succ]
        refine WL.val (by kernel_rfl) (.bool false) (by go_simp) ?_
        simp only [Act.put, List.setIfInBounds_toArray, List.set_cons_zero, List.set_cons_succ]
        refine WL.val (by kernel_rfl) (.bool false) (by go_simp) ?_
        simp only [Act.put, List.setIfInBounds_toArray, List.set_cons_zero, List.set_cons_succ]
        refine WL.nil ?_
        refine hK17 _ _ ?_
        refine wp_cond_false rfl ?_
        refine wp_skip ?_
        refine hK13 _ _ ?_
        refine wp_seq_k fun K18 hK18 => ?_
        refine wp_seq_k fun K19 hK19 => ?_
        obtain ⟨wt, Bt, HRt⟩ : ∃ wt, Keep (Below w1.heap.size w1 wt ∧ wt = w9) ∧ Keep (RowAt wt (.slice (some ⟨gb, 0, none⟩) (blkL N).length (blkL N).length) (blkL N)) := ⟨_, ⟨B9.out, rfl⟩, ⟨HR9.out⟩⟩
        rw [← Bt.out.2]
        refine wp_region_list (WL.out ?_)
        refine WL.val (by kernel_rfl) (.int .i64 c) (by go_simp) ?_
        simp only [Act.put, List.setIfInBounds_toArray, List.set_cons_zero, List.set_cons_succ]
        by_cases h11_1 : c < 0
        · skip
          refine WL.val (by kernel_rfl) (.bool true) (by go_simp) ?_
          simp only [Act.put, List.setIfInBounds_toArray, List.set_cons_zero, List.set_cons_succ]
          refine WL.val (by kernel_rfl) (.bool true) (by go_simp) ?_
          simp only [Act.put, List.setIfInBounds_toArray, List.set_cons_zero, List.set_cons_succ]
          refine WL.skip (by kernel_rfl) ?_
          simp only [Act.put, List.setIfInBounds_toArray, List.set_cons_zero, List.set_cons_succ]
          refine WL.skip (by kernel_rfl) ?_
          simp only [Act.put, List.setIfInBounds_toArray, List.set_cons_zero, List.set_cons_succ]
          refine WL.skip (by kernel_rfl) ?_
          simp only [Act.put, List.setIfInBounds_toArray, List.set_cons_zero, List.set_cons_succ]
          refine WL.skip (by kernel_rfl) ?_
          simp only [Act.put, List.setIfInBounds_toArray, List.set_cons_zero, List.set_cons_succ]
          refine WL.val (by kernel_rfl) (.bool true) (by go_simp) ?_
          simp only [Act.put, List.setIfInBounds_toArray, List.set_cons_zero, List.set_cons_succ]
          refine WL.nil ?_
          refine hK19 _ _ ?_
          refine wp_cond_true rfl ?_
          refine wp_seq_k fun K20 hK20 => ?_
          refine wp_region_list (WL.out ?_)
          refine WL.val (by kernel_rfl) (.bool true) (by go_simp) ?_
          simp only [Act.put, List.setIfInBounds_toArray, List.set_cons_zero, List.set_cons_succ]
          refine WL.nil ?_
          refine hK20 _ _ ?_
          refine wp_ret ?_
          go_ret
          exact ⟨rfl, B1.out.trans (Bt.out.1.mono B1x.out)⟩
        · skip
          refine WL.val (by kernel_rfl) (.bool false) (by go_simp) ?_
          simp only [Act.put, List.setIfInBounds_toArray, List.set_cons_zero, List.set_cons_succ]
          refine WL.val (by kernel_rfl) (.bool false) (by go_simp) ?_
          simp only [Act.put, List.setIfInBounds_toArray, List.set_cons_zero, List.set_cons_succ]
          refine WL.val (by kernel_rfl) (.int .i64 c) (by go_simp) ?_
          simp only [Act.put, List.setIfInBounds_toArray, List.set_cons_zero, List.set_cons_succ]
          refine WL.val (by kernel_rfl) (.slice (some ⟨gb, 0, none⟩) (blkL N).length (blkL N).length) (by go_simp) ?_
          simp only [Act.put, List.setIfInBounds_toArray, List.set_cons_zero, List.set_cons_succ]
          refine WL.val (by kernel_rfl) (.int .i64 ((blkL N).length : Int)) (by go_simp) ?_
          simp only [Act.put, List.setIfInBounds_toArray, List.set_cons_zero, List.set_cons_succ]
          by_cases h11_6 : ((blkL N).length : Int) ≤ c
          · skip
            refine WL.val (by kernel_rfl) (.bool true) (by go_simp) ?_
            simp only [Act.put, List.setIfInBounds_toArray, List.set_cons_zero, List.set_cons_succ]
            refine WL.val (by kernel_rfl) (.bool true) (by go_simp) ?_
            simp only [Act.put, List.setIfInBounds_toArray, List.set_cons_zero, List.set_cons_succ]
            refine WL.nil ?_
            refine hK19 _ _ ?_
            refine wp_cond_true rfl ?_
            refine wp_seq_k fun K21 hK21 => ?_
            refine wp_region_list (WL.out ?_)
            refine WL.val (by kernel_rfl) (.bool true) (by go_simp) ?_
            simp only [Act.put, List.setIfInBounds_toArray, List.set_cons_zero, List.set_cons_succ]
            refine WL.nil ?_
            refine hK21 _ _ ?_
            refine wp_ret ?_
            go_ret
            exact ⟨rfl, B1.out.trans (Bt.out.1.mono B1x.out)⟩
          · skip
            refine WL.val (by kernel_rfl) (.bool false) (by go_simp) ?_
            simp only [Act.put, List.setIfInBounds_toArray, List.set_cons_zero, List.set_cons_succ]
            refine WL.val (by kernel_rfl) (.bool false) (by go_simp) ?_
            simp only [Act.put, List.setIfInBounds_toArray, List.set_cons_zero, List.set_cons_succ]
            refine WL.nil ?_
            refine hK19 _ _ ?_
            refine wp_cond_false rfl ?_
            refine wp_skip ?_
            refine hK18 _ _ ?_
            refine wp_seq_k fun K22 hK22 => ?_
            obtain ⟨k, hk⟩ : ∃ k : Nat, c = (k : Int) := ⟨c.toNat, by omega⟩
            subst hk
            have hkl : k < (blkL N).length := by omega
            have hs1 := sl_run (some ⟨gb, 0, none⟩) (blkL N).length (blkL N).length k (by omega)
            have HD : Keep (RowAt wt (.slice (some ⟨gb, 0, none⟩) k (blkL N).length) ((blkL N).take k)) := ⟨by
              rcases HRt.out with ⟨e1, e2⟩ | ⟨a, c, e1, e2⟩ | ⟨h, off, cap, e1, e2, e3⟩
              · rw [e2] at hkl; exact absurd hkl (Nat.not_lt_zero _)
              · rw [e2] at hkl; exact absurd hkl (Nat.not_lt_zero _)
              · injection e1 with e4 e5 e6
                injection e4 with e4
                injection e4 with e7 e8
                refine .inr (.inr ⟨gb, 0, (blkL N).length, by rw [List.length_take, Nat.min_eq_left (by omega)], by rw [List.length_take]; omega, fun i hi => ?_⟩)
                rw [List.length_take] at hi
                have := e3 i (by omega)
                rw [← e7, ← e8] at this
                rw [this, List.getD_eq_getElem?_getD, List.getD_eq_getElem?_getD, List.getElem?_take, if_pos (by omega)]⟩
            refine wp_region_list (WL.out ?_)
            refine WL.val (by kernel_rfl) (.slice (some ⟨gb, 0, none⟩) (blkL N).length (blkL N).length) (by go_simp) ?_
            simp only [Act.put, List.setIfInBounds_toArray, List.set_cons_zero, List.set_cons_succ]
            refine WL.val (by kernel_rfl) (.int .i64 (k : Int)) (by go_simp) ?_
            simp only [Act.put, List.setIfInBounds_toArray, List.set_cons_zero, List.set_cons_succ]
            refine WL.val (by kernel_rfl) (.slice (some ⟨gb, 0, none⟩) k (blkL N).length) (by go_simp) ?_
            simp only [Act.put, List.setIfInBounds_toArray, List.set_cons_zero, List.set_cons_succ]
            refine WL.callF (by kernel_rfl) 16 _ _ rfl Try.in16 #[.slice (some ⟨gb, 0, none⟩) k (blkL N).length] (by simp [Act.eval]) ?_
            refine (decode_any _ ((blkL N).take k) wt HD.out ((HbyN.out Hch.out).take k)).mono ?_
            rintro e u5 h5
            obtain ⟨q, at_, hq5, rfl, hat, hbad5, hb5⟩ : ∃ q at_, wt.heap.size ≤ q ∧ e = .returned (.tuple #[.agg (ndA 0 0 noS noS), err q]) ∧ at_ ≤ k ∧ BadAt u5 q 20 at_ ∧ Below wt.heap.size wt u5 := by
              have hlt : ((blkL N).take k).length = k := by rw [List.length_take]; omega
              have hd := decR_short Hch.out HN.out.ok (D := (blkL N).take k) (m := (blkL N).drop k) (List.take_append_drop _ _) (by intro e0; have := congrArg List.length e0; rw [List.length_drop] at this; simp only [List.length_nil] at this; omega)
              have hl : ¬ 1048576 < ((blkL N).take k).length := by rw [hlt]; have := Hlen.out; omega
              have hbr : badR ((blkL N).take k) = (20, (decR ((blkL N).take k)).2.1) := by unfold badR; rw [if_neg hl, hd.1]
              unfold DecPost at h5
              rw [hbr] at h5
              rcases h5 with ⟨_, h5, _⟩ | ⟨_, q, h6, h7, h8, h9⟩
              · rw [hd.1] at h5; exact absurd h5 (by decide)
              · exact ⟨q, _, h6, h7, by have := hd.2; rw [hlt] at this; exact this, h8, h9⟩
            refine ⟨_, rfl, ?_⟩
            clear h5
            unfold err
            have HBd5 := Keep.mk hbad5
            have Bu5 : Keep (Below w1.heap.size w1 u5) := ⟨Bt.out.1.trans (hb5.mono Bt.out.1.size)⟩
            have hati : (at_ : Int) ≤ (k : Int) := by omega
            clear hbad5 hb5 hs1 hq5
            simp only [Act.put, List.setIfInBounds_toArray, List.set_cons_zero, List.set_cons_succ]
            refine WL.val (by kernel_rfl) (.tuple #[.agg (ndA 0 0 noS noS), .iface 68 (ptr q)]) (by go_simp) ?_
            simp only [Act.put, List.setIfInBounds_toArray, List.set_cons_zero, List.set_cons_succ]
            refine WL.val (by kernel_rfl) (.agg (ndA 0 0 noS noS)) (by go_simp) ?_
            simp only [Act.put, List.setIfInBounds_toArray, List.set_cons_zero, List.set_cons_succ]
            refine WL.val (by kernel_rfl) (.iface 68 (ptr q)) (by go_simp) ?_
            simp only [Act.put, List.setIfInBounds_toArray, List.set_cons_zero, List.set_cons_succ]
            refine WL.new (by kernel_rfl) 27 rfl _ Try.new27N ?_
            simp only [Act.put, List.setIfInBounds_toArray, List.set_cons_zero, List.set_cons_succ]
            refine WL.storeR (by kernel_rfl) 27 (.tmp 13) (.tmp 87) rfl u5.heap.size (ndA 0 0 noS noS) rfl rfl 27 (ndA 0 0 noS noS) (Blk.new u5 27 _) (Try.size27B _ _ _ _) rfl (nd_one 0 0 none 0 0 none 0 0) ?_
            have HV6 := Keep.mk ((Blk.new u5 27 (ndA 0 0 noS noS)).setRow (ndA 0 0 noS noS))
            have BV6 : Keep (Below u5.heap.size u5 ((u5.alloc (.cells (ndA 0 0 noS noS) 27)).setRow u5.heap.size (ndA 0 0 noS noS))) := ⟨below_setRow (below_new u5 _) (Nat.le_refl _) _⟩
            generalize (u5.alloc (.cells (ndA 0 0 noS noS) 27)).setRow u5.heap.size (ndA 0 0 noS noS) = u6 at *
            have Bu6 : Keep (Below w1.heap.size w1 u6) := ⟨Bu5.out.trans (BV6.out.mono Bu5.out.size)⟩
            have HC6 : Keep (BadAt u6 q 20 at_) := ⟨HBd5.out.below BV6.out HBd5.out.lt⟩
            simp only [Act.put]
            refine WL.val (by kernel_rfl) (.iface 68 (ptr q)) (by go_simp) ?_
            simp only [Act.put, List.setIfInBounds_toArray, List.set_cons_zero, List.set_cons_succ]
            refine WL.nil ?_
            refine hK22 _ _ ?_
            refine wp_seq_k fun K23 hK23 => ?_
            refine wp_region_list (WL.out ?_)
            refine WL.val (by kernel_rfl) (.iface 68 (ptr q)) (by go_simp) ?_
            simp only [Act.put, List.setIfInBounds_toArray, List.set_cons_zero, List.set_cons_succ]
            refine WL.callF (by kernel_rfl) 21 _ _ rfl Try.in21 #[.iface 68 (ptr q)] (by simp [Act.eval]) ?_
            refine (told_err q 20 at_ u6 HC6.out (by decide)).mono ?_
            rintro e u7 ⟨rfl, hb7⟩
            refine ⟨_, rfl, ?_⟩
            have Bu7 : Keep (Below w1.heap.size w1 u7) := ⟨Bu6.out.trans (hb7.mono Bu6.out.size)⟩
            have HV7 := Keep.mk (HV6.out.below hb7 HV6.out.lt)
            clear hb7
            simp only [Act.put, List.setIfInBounds_toArray, List.set_cons_zero, List.set_cons_succ]
            refine WL.val (by kernel_rfl) (.tuple #[.agg (erA 20 (at_ : Int)), .bool true]) (by go_simp) ?_
            simp only [Act.put, List.setIfInBounds_toArray, List.set_cons_zero, List.set_cons_succ]
            refine WL.val (by kernel_rfl) (.agg (erA 20 (at_ : Int))) (by go_simp) ?_
            simp only [Act.put, List.setIfInBounds_toArray, List.set_cons_zero, List.set_cons_succ]
            refine WL.val (by kernel_rfl) (.bool true) (by go_simp) ?_
            simp only [Act.put, List.setIfInBounds_toArray, List.set_cons_zero, List.set_cons_succ]
            refine WL.new (by kernel_rfl) 49 rfl _ Try.new49E ?_
            simp only [Act.put, List.setIfInBounds_toArray, List.set_cons_zero, List.set_cons_succ]
            refine WL.storeR (by kernel_rfl) 49 (.tmp 15) (.tmp 92) rfl u7.heap.size (erA 20 (at_ : Int)) rfl rfl 49 (erA 0 0) (Blk.new u7 49 _) (Try.size49B _ _) (erA_sizes _ _ _ _) (erA_one _ _) ?_
            have HF8 := Keep.mk ((Blk.new u7 49 (erA 0 0)).setRow (erA 20 (at_ : Int)))
            have BV8 : Keep (Below u7.heap.size u7 ((u7.alloc (.cells (erA 0 0) 49)).setRow u7.heap.size (erA 20 (at_ : Int)))) := ⟨below_setRow (below_new u7 _) (Nat.le_refl _) _⟩
            generalize (u7.alloc (.cells (erA 0 0) 49)).setRow u7.heap.size (erA 20 (at_ : Int)) = u8 at *
            have Bu8 : Keep (Below w1.heap.size w1 u8) := ⟨Bu7.out.trans (BV8.out.mono Bu7.out.size)⟩
            have HV8 := Keep.mk (HV7.out.below BV8.out HV7.out.lt)
            have z0 : u8.cell? ⟨u7.heap.size, 0, none⟩ = some (.int .i64 20) := HF8.out.c 0 rfl
            have z1 : u8.cell? ⟨u7.heap.size, 1, none⟩ = some (.int .i64 (at_ : Int)) := HF8.out.c 1 rfl
            simp only [Act.put]
            refine WL.val (by kernel_rfl) (.bool true) (by go_simp) ?_
            simp only [Act.put, List.setIfInBounds_toArray, List.set_cons_zero, List.set_cons_succ]
            refine WL.nil ?_
            refine hK23 _ _ ?_
            refine wp_seq_k fun K24 hK24 => ?_
            refine wp_region_list (WL.out ?_)
            refine WL.val (by kernel_rfl) (.bool true) (by go_simp) ?_
            simp only [Act.put, List.setIfInBounds_toArray, List.set_cons_zero, List.set_cons_succ]
            refine WL.val (by kernel_rfl) (.bool true) (by go_simp) ?_
            simp only [Act.put, List.setIfInBounds_toArray, List.set_cons_zero, List.set_cons_succ]
            refine WL.val (by kernel_rfl) (.pointer (some ⟨u7.heap.size, 0, none⟩)) (by go_simp) ?_
            simp only [Act.put, List.setIfInBounds_toArray, List.set_cons_zero, List.set_cons_succ]
            refine WL.val (by kernel_rfl) (.int .i64 20) (by go_simp) ?_
            simp only [Act.put, List.setIfInBounds_toArray, List.set_cons_zero, List.set_cons_succ]
            refine WL.val (by kernel_rfl) (.bool true) (by go_simp) ?_
            simp only [Act.put, List.setIfInBounds_toArray, List.set_cons_zero, List.set_cons_succ]
            refine WL.val (by kernel_rfl) (.bool true) (by go_simp) ?_
            simp only [Act.put, List.setIfInBounds_toArray, List.set_cons_zero, List.set_cons_succ]
            refine WL.val (by kernel_rfl) (.bool true) (by go_simp) ?_
            simp only [Act.put, List.setIfInBounds_toArray, List.set_cons_zero, List.set_cons_succ]
            refine WL.val (by kernel_rfl) (.pointer (some ⟨u7.heap.size, 1, none⟩)) (by go_simp) ?_
            simp only [Act.put, List.setIfInBounds_toArray, List.set_cons_zero, List.set_cons_succ]
            refine WL.val (by kernel_rfl) (.int .i64 (at_ : Int)) (by go_simp) ?_
            simp only [Act.put, List.setIfInBounds_toArray, List.set_cons_zero, List.set_cons_succ]
            refine WL.val (by kernel_rfl) (.int .i64 (k : Int)) (by go_simp) ?_
            simp only [Act.put, List.setIfInBounds_toArray, List.set_cons_zero, List.set_cons_succ]
            refine WL.val (by kernel_rfl) (.bool true) (by go_simp) ?_
            simp only [Act.put, List.setIfInBounds_toArray, List.set_cons_zero, List.set_cons_succ]
            refine WL.val (by kernel_rfl) (.bool true) (by go_simp) ?_
            simp only [Act.put, List.setIfInBounds_toArray, List.set_cons_zero, List.set_cons_succ]
            refine WL.val (by kernel_rfl) (.bool true) (by go_simp) ?_
            simp only [Act.put, List.setIfInBounds_toArray, List.set_cons_zero, List.set_cons_succ]
            refine WL.row (by kernel_rfl) 27 (.tmp 13) rfl u5.heap.size rfl 27 (ndA 0 0 noS noS) _ HV8.out Try.underlying27 rfl (Try.size27B _ _ _ _) ?_
            simp only [Act.put, List.setIfInBounds_toArray, List.set_cons_zero, List.set_cons_succ]
            refine WL.bld (by kernel_rfl) 27 _ rfl [] (by simp) _ nd_built0 ?_
            simp only [Act.put, List.setIfInBounds_toArray, List.set_cons_zero, List.set_cons_succ]
            refine WL.callF (by kernel_rfl) 18 _ _ rfl Try.in18 #[.agg (ndA 0 0 noS noS), .agg (ndA 0 0 noS noS)] (by simp [Act.eval]) ?_
            refine (rsame_node zeroN zeroN noS noS noS noS u8 (ndAt_empty u8 zeroN rfl rfl (by decide) (by decide)) (ndAt_empty u8 zeroN rfl rfl (by decide) (by decide))).mono ?_
            rintro e u9 ⟨rfl, hbz⟩
            refine ⟨_, rfl, ?_⟩
            rw [sameN_refl]
            have Bu9 : Keep (Below w1.heap.size w1 u9) := ⟨Bu8.out.trans (hbz.mono Bu8.out.size)⟩
            clear hbz
            simp only [Act.put, List.setIfInBounds_toArray, List.set_cons_zero, List.set_cons_succ]
            refine WL.val (by kernel_rfl) (.bool true) (by go_simp) ?_
            simp only [Act.put, List.setIfInBounds_toArray, List.set_cons_zero, List.set_cons_succ]
            refine WL.val (by kernel_rfl) (.bool true) (by go_simp) ?_
            simp only [Act.put, List.setIfInBounds_toArray, List.set_cons_zero, List.set_cons_succ]
            refine WL.nil ?_
            refine hK24 _ _ ?_
            refine wp_ret ?_
            go_ret
            exact ⟨rfl, B1.out.trans (Bu9.out.mono B1x.out)⟩
      · have h6_9i : ¬ ((blkL N).length : Int) + (M.length : Int) ≤ 1048576 := by omega
        refine WL.val (by kernel_rfl) (.bool false) (by go_simp) ?_
        simp only [Act.put, List.setIfInBounds_toArray, List.set_cons_zero, List.set_cons_succ]
        refine WL.val (by kernel_rfl) (.bool false) (by go_simp) ?_
        simp only [Act.put, List.setIfInBounds_toArray, List.set_cons_zero, List.set_cons_succ]
        refine WL.nil ?_
        refine hK14 _ _ ?_
        refine wp_cond_false rfl ?_
        refine wp_skip ?_
        refine hK13 _ _ ?_
        refine wp_seq_k fun K25 hK25 => ?_
        refine wp_seq_k fun K26 hK26 => ?_
        obtain ⟨wt, Bt, HRt⟩ : ∃ wt, Keep (Below w1.heap.size w1 wt ∧ wt = w3) ∧ Keep (RowAt wt (.slice (some ⟨gb, 0, none⟩) (blkL N).length (blkL N).length) (blkL N)) := ⟨_, ⟨B3.out, rfl⟩, ⟨row_of HB3.out rfl⟩⟩
        rw [← Bt.out.2]
        refine wp_region_list (WL.out ?_)
        refine WL.val (by kernel_rfl) (.int .i64 c) (by go_simp) ?_
        simp only [Act.put, List.setIfInBounds_toArray, List.set_cons_zero, List.set_cons_succ]
        by_cases h11_1 : c < 0
        · skip
          refine WL.val (by kernel_rfl) (.bool true) (by go_simp) ?_
          simp only [Act.put, List.setIfInBounds_toArray, List.set_cons_zero, List.set_cons_succ]
          refine WL.val (by kernel_rfl) (.bool true) (by go_simp) ?_
          simp only [Act.put, List.setIfInBounds_toArray, List.set_cons_zero, List.set_cons_succ]
          refine WL.skip (by kernel_rfl) ?_
          simp only [Act.put, List.setIfInBounds_toArray, List.set_cons_zero, List.set_cons_succ]
          refine WL.skip (by kernel_rfl) ?_
          simp only [Act.put, List.setIfInBounds_toArray, List.set_cons_zero, List.set_cons_succ]
          refine WL.skip (by kernel_rfl) ?_
          simp only [Act.put, List.setIfInBounds_toArray, List.set_cons_zero, List.set_cons_succ]
          refine WL.skip (by kernel_rfl) ?_
          simp only [Act.put, List.setIfInBounds_toArray, List.set_cons_zero, List.set_cons_succ]
          refine WL.val (by kernel_rfl) (.bool true) (by go_simp) ?_
          simp only [Act.put, List.setIfInBounds_toArray, List.set_cons_zero, List.set_cons_succ]
          refine WL.nil ?_
          refine hK26 _ _ ?_
          refine wp_cond_true rfl ?_
          refine wp_seq_k fun K27 hK27 => ?_
          refine wp_region_list (WL.out ?_)
          refine WL.val (by kernel_rfl) (.bool true) (by go_simp) ?_
          simp only [Act.put, List.setIfInBounds_toArray, List.set_cons_zero, List.set_cons_succ]
          refine WL.nil ?_
          refine hK27 _ _ ?_
          refine wp_ret ?_
          go_ret
          exact ⟨rfl, B1.out.trans (Bt.out.1.mono B1x.out)⟩
        · skip
          refine WL.val (by kernel_rfl) (.bool false) (by go_simp) ?_
          simp only [Act.put, List.setIfInBounds_toArray, List.set_cons_zero, List.set_cons_succ]
          refine WL.val (by kernel_rfl) (.bool false) (by go_simp) ?_
          simp only [Act.put, List.setIfInBounds_toArray, List.set_cons_zero, List.set_cons_succ]
          refine WL.val (by kernel_rfl) (.int .i64 c) (by go_simp) ?_
          simp only [Act.put, List.setIfInBounds_toArray, List.set_cons_zero, List.set_cons_succ]
          refine WL.val (by kernel_rfl) (.slice (some ⟨gb, 0, none⟩) (blkL N).length (blkL N).length) (by go_simp) ?_
          simp only [Act.put, List.setIfInBounds_toArray, List.set_cons_zero, List.set_cons_succ]
          refine WL.val (by kernel_rfl) (.int .i64 ((blkL N).length : Int)) (by go_simp) ?_
          simp only [Act.put, List.setIfInBounds_toArray, List.set_cons_zero, List.set_cons_succ]
          by_cases h11_6 : ((blkL N).length : Int) ≤ c
          · skip
            refine WL.val (by kernel_rfl) (.bool true) (by go_simp) ?_
            simp only [Act.put, List.setIfInBounds_toArray, List.set_cons_zero, List.set_cons_succ]
            refine WL.val (by kernel_rfl) (.bool true) (by go_simp) ?_
            simp only [Act.put, List.setIfInBounds_toArray, List.set_cons_zero, List.set_cons_succ]
            refine WL.nil ?_
            refine hK26 _ _ ?_
            refine wp_cond_true rfl ?_
            refine wp_seq_k fun K28 hK28 => ?_
            refine wp_region_list (WL.out ?_)
            refine WL.val (by kernel_rfl) (.bool true) (by go_simp) ?_
            simp only [Act.put, List.setIfInBounds_toArray, List.set_cons_zero, List.set_cons_succ]
            refine WL.nil ?_
            refine hK28 _ _ ?_
            refine wp_ret ?_
            go_ret
            exact ⟨rfl, B1.out.trans (Bt.out.1.mono B1x.out)⟩
          · skip
            refine WL.val (by kernel_rfl) (.bool false) (by go_simp) ?_
            simp only [Act.put, List.setIfInBounds_toArray, List.set_cons_zero, List.set_cons_succ]
            refine WL.val (by kernel_rfl) (.bool false) (by go_simp) ?_
            simp only [Act.put, List.setIfInBounds_toArray, List.set_cons_zero, List.set_cons_succ]
            refine WL.nil ?_
            refine hK26 _ _ ?_
            refine wp_cond_false rfl ?_
            refine wp_skip ?_
            refine hK25 _ _ ?_
            refine wp_seq_k fun K29 hK29 => ?_
            obtain ⟨k, hk⟩ : ∃ k : Nat, c = (k : Int) := ⟨c.toNat, by omega⟩
            subst hk
            have hkl : k < (blkL N).length := by omega
            have hs1 := sl_run (some ⟨gb, 0, none⟩) (blkL N).length (blkL N).length k (by omega)
            have HD : Keep (RowAt wt (.slice (some ⟨gb, 0, none⟩) k (blkL N).length) ((blkL N).take k)) := ⟨by
              rcases HRt.out with ⟨e1, e2⟩ | ⟨a, c, e1, e2⟩ | ⟨h, off, cap, e1, e2, e3⟩
              · rw [e2] at hkl; exact absurd hkl (Nat.not_lt_zero _)
              · rw [e2] at hkl; exact absurd hkl (Nat.not_lt_zero _)
              · injection e1 with e4 e5 e6
                injection e4 with e4
                injection e4 with e7 e8
                refine .inr (.inr ⟨gb, 0, (blkL N).length, by rw [List.length_take, Nat.min_eq_left (by omega)], by rw [List.length_take]; omega, fun i hi => ?_⟩)
                rw [List.length_take] at hi
                have := e3 i (by omega)
                rw [← e7, ← e8] at this
                rw [this, List.getD_eq_getElem?_getD, List.getD_eq_getElem?_getD, List.getElem?_take, if_pos (by omega)]⟩
            refine wp_region_list (WL.out ?_)
            refine WL.val (by kernel_rfl) (.slice (some ⟨gb, 0, none⟩) (blkL N).length (blkL N).length) (by go_simp) ?_
            simp only [Act.put, List.setIfInBounds_toArray, List.set_cons_zero, List.set_cons_succ]
            refine WL.val (by kernel_rfl) (.int .i64 (k : Int)) (by go_simp) ?_
            simp only [Act.put, List.setIfInBounds_toArray, List.set_cons_zero, List.set_cons_succ]
            refine WL.val (by kernel_rfl) (.slice (some ⟨gb, 0, none⟩) k (blkL N).length) (by go_simp) ?_
            simp only [Act.put, List.setIfInBounds_toArray, List.set_cons_zero, List.set_cons_succ]
            refine WL.callF (by kernel_rfl) 16 _ _ rfl Try.in16 #[.slice (some ⟨gb, 0, none⟩) k (blkL N).length] (by simp [Act.eval]) ?_
            refine (decode_any _ ((blkL N).take k) wt HD.out ((HbyN.out Hch.out).take k)).mono ?_
            rintro e u5 h5
            obtain ⟨q, at_, hq5, rfl, hat, hbad5, hb5⟩ : ∃ q at_, wt.heap.size ≤ q ∧ e = .returned (.tuple #[.agg (ndA 0 0 noS noS), err q]) ∧ at_ ≤ k ∧ BadAt u5 q 20 at_ ∧ Below wt.heap.size wt u5 := by
              have hlt : ((blkL N).take k).length = k := by rw [List.length_take]; omega
              have hd := decR_short Hch.out HN.out.ok (D := (blkL N).take k) (m := (blkL N).drop k) (List.take_append_drop _ _) (by intro e0; have := congrArg List.length e0; rw [List.length_drop] at this; simp only [List.length_nil] at this; omega)
              have hl : ¬ 1048576 < ((blkL N).take k).length := by rw [hlt]; have := Hlen.out; omega
              have hbr : badR ((blkL N).take k) = (20, (decR ((blkL N).take k)).2.1) := by unfold badR; rw [if_neg hl, hd.1]
              unfold DecPost at h5
              rw [hbr] at h5
              rcases h5 with ⟨_, h5, _⟩ | ⟨_, q, h6, h7, h8, h9⟩
              · rw [hd.1] at h5; exact absurd h5 (by decide)
              · exact ⟨q, _, h6, h7, by have := hd.2; rw [hlt] at this; exact this, h8, h9⟩
            refine ⟨_, rfl, ?_⟩
            clear h5
            unfold err
            have HBd5 := Keep.mk hbad5
            have Bu5 : Keep (Below w1.heap.size w1 u5) := ⟨Bt.out.1.trans (hb5.mono Bt.out.1.size)⟩
            have hati : (at_ : Int) ≤ (k : Int) := by omega
            clear hbad5 hb5 hs1 hq5
            simp only [Act.put, List.setIfInBounds_toArray, List.set_cons_zero, List.set_cons_succ]
            refine WL.val (by kernel_rfl) (.tuple #[.agg (ndA 0 0 noS noS), .iface 68 (ptr q)]) (by go_simp) ?_
            simp only [Act.put, List.setIfInBounds_toArray, List.set_cons_zero, List.set_cons_succ]
            refine WL.val (by kernel_rfl) (.agg (ndA 0 0 noS noS)) (by go_simp) ?_
            simp only [Act.put, List.setIfInBounds_toArray, List.set_cons_zero, List.set_cons_succ]
            refine WL.val (by kernel_rfl) (.iface 68 (ptr q)) (by go_simp) ?_
            simp only [Act.put, List.setIfInBounds_toArray, List.set_cons_zero, List.set_cons_succ]
            refine WL.new (by kernel_rfl) 27 rfl _ Try.new27N ?_
            simp only [Act.put, List.setIfInBounds_toArray, List.set_cons_zero, List.set_cons_succ]
            refine WL.storeR (by kernel_rfl) 27 (.tmp 13) (.tmp 87) rfl u5.heap.size (ndA 0 0 noS noS) rfl rfl 27 (ndA 0 0 noS noS) (Blk.new u5 27 _) (Try.size27B _ _ _ _) rfl (nd_one 0 0 none 0 0 none 0 0) ?_
            have HV6 := Keep.mk ((Blk.new u5 27 (ndA 0 0 noS noS)).setRow (ndA 0 0 noS noS))
            have BV6 : Keep (Below u5.heap.size u5 ((u5.alloc (.cells (ndA 0 0 noS noS) 27)).setRow u5.heap.size (ndA 0 0 noS noS))) := ⟨below_setRow (below_new u5 _) (Nat.le_refl _) _⟩
            generalize (u5.alloc (.cells (ndA 0 0 noS noS) 27)).setRow u5.heap.size (ndA 0 0 noS noS) = u6 at *
            have Bu6 : Keep (Below w1.heap.size w1 u6) := ⟨Bu5.out.trans (BV6.out.mono Bu5.out.size)⟩
            have HC6 : Keep (BadAt u6 q 20 at_) := ⟨HBd5.out.below BV6.out HBd5.out.lt⟩
            simp only [Act.put]
            refine WL.val (by kernel_rfl) (.iface 68 (ptr q)) (by go_simp) ?_
            simp only [Act.put, List.setIfInBounds_toArray, List.set_cons_zero, List.set_cons_succ]
            refine WL.nil ?_
            refine hK29 _ _ ?_
            refine wp_seq_k fun K30 hK30 => ?_
            refine wp_region_list (WL.out ?_)
            refine WL.val (by kernel_rfl) (.iface 68 (ptr q)) (by go_simp) ?_
            simp only [Act.put, List.setIfInBounds_toArray, List.set_cons_zero, List.set_cons_succ]
            refine WL.callF (by kernel_rfl) 21 _ _ rfl Try.in21 #[.iface 68 (ptr q)] (by simp [Act.eval]) ?_
            refine (told_err q 20 at_ u6 HC6.out (by decide)).mono ?_
            rintro e u7 ⟨rfl, hb7⟩
            refine ⟨_, rfl, ?_⟩
            have Bu7 : Keep (Below w1.heap.size w1 u7) := ⟨Bu6.out.trans (hb7.mono Bu6.out.size)⟩
            have HV7 := Keep.mk (HV6.out.below hb7 HV6.out.lt)
            clear hb7
            simp only [Act.put, List.setIfInBounds_toArray, List.set_cons_zero, List.set_cons_succ]
            refine WL.val (by kernel_rfl) (.tuple #[.agg (erA 20 (at_ : Int)), .bool true]) (by go_simp) ?_
            simp only [Act.put, List.setIfInBounds_toArray, List.set_cons_zero, List.set_cons_succ]
            refine WL.val (by kernel_rfl) (.agg (erA 20 (at_ : Int))) (by go_simp) ?_
            simp only [Act.put, List.setIfInBounds_toArray, List.set_cons_zero, List.set_cons_succ]
            refine WL.val (by kernel_rfl) (.bool true) (by go_simp) ?_
            simp only [Act.put, List.setIfInBounds_toArray, List.set_cons_zero, List.set_cons_succ]
            refine WL.new (by kernel_rfl) 49 rfl _ Try.new49E ?_
            simp only [Act.put, List.setIfInBounds_toArray, List.set_cons_zero, List.set_cons_succ]
            refine WL.storeR (by kernel_rfl) 49 (.tmp 15) (.tmp 92) rfl u7.heap.size (erA 20 (at_ : Int)) rfl rfl 49 (erA 0 0) (Blk.new u7 49 _) (Try.size49B _ _) (erA_sizes _ _ _ _) (erA_one _ _) ?_
            have HF8 := Keep.mk ((Blk.new u7 49 (erA 0 0)).setRow (erA 20 (at_ : Int)))
            have BV8 : Keep (Below u7.heap.size u7 ((u7.alloc (.cells (erA 0 0) 49)).setRow u7.heap.size (erA 20 (at_ : Int)))) := ⟨below_setRow (below_new u7 _) (Nat.le_refl _) _⟩
            generalize (u7.alloc (.cells (erA 0 0) 49)).setRow u7.heap.size (erA 20 (at_ : Int)) = u8 at *
            have Bu8 : Keep (Below w1.heap.size w1 u8) := ⟨Bu7.out.trans (BV8.out.mono Bu7.out.size)⟩
            have HV8 := Keep.mk (HV7.out.below BV8.out HV7.out.lt)
            have z0 : u8.cell? ⟨u7.heap.size, 0, none⟩ = some (.int .i64 20) := HF8.out.c 0 rfl
            have z1 : u8.cell? ⟨u7.heap.size, 1, none⟩ = some (.int .i64 (at_ : Int)) := HF8.out.c 1 rfl
            simp only [Act.put]
            refine WL.val (by kernel_rfl) (.bool true) (by go_simp) ?_
            simp only [Act.put, List.setIfInBounds_toArray, List.set_cons_zero, List.set_cons_succ]
            refine WL.nil ?_
            refine hK30 _ _ ?_
            refine wp_seq_k fun K31 hK31 => ?_
            refine wp_region_list (WL.out ?_)
            refine WL.val (by kernel_rfl) (.bool true) (by go_simp) ?_
            simp only [Act.put, List.setIfInBounds_toArray, List.set_cons_zero, List.set_cons_succ]
            refine WL.val (by kernel_rfl) (.bool true) (by go_simp) ?_
            simp only [Act.put, List.setIfInBounds_toArray, List.set_cons_zero, List.set_cons_succ]
            refine WL.val (by kernel_rfl) (.pointer (some ⟨u7.heap.size, 0, none⟩)) (by go_simp) ?_
            simp only [Act.put, List.setIfInBounds_toArray, List.set_cons_zero, List.set_cons_succ]
            refine WL.val (by kernel_rfl) (.int .i64 20) (by go_simp) ?_
            simp only [Act.put, List.setIfInBounds_toArray, List.set_cons_zero, List.set_cons_succ]
            refine WL.val (by kernel_rfl) (.bool true) (by go_simp) ?_
            simp only [Act.put, List.setIfInBounds_toArray, List.set_cons_zero, List.set_cons_succ]
            refine WL.val (by kernel_rfl) (.bool true) (by go_simp) ?_
            simp only [Act.put, List.setIfInBounds_toArray, List.set_cons_zero, List.set_cons_succ]
            refine WL.val (by kernel_rfl) (.bool true) (by go_simp) ?_
            simp only [Act.put, List.setIfInBounds_toArray, List.set_cons_zero, List.set_cons_succ]
            refine WL.val (by kernel_rfl) (.pointer (some ⟨u7.heap.size, 1, none⟩)) (by go_simp) ?_
            simp only [Act.put, List.setIfInBounds_toArray, List.set_cons_zero, List.set_cons_succ]
            refine WL.val (by kernel_rfl) (.int .i64 (at_ : Int)) (by go_simp) ?_
            simp only [Act.put, List.setIfInBounds_toArray, List.set_cons_zero, List.set_cons_succ]
            refine WL.val (by kernel_rfl) (.int .i64 (k : Int)) (by go_simp) ?_
            simp only [Act.put, List.setIfInBounds_toArray, List.set_cons_zero, List.set_cons_succ]
            refine WL.val (by kernel_rfl) (.bool true) (by go_simp) ?_
            simp only [Act.put, List.setIfInBounds_toArray, List.set_cons_zero, List.set_cons_succ]
            refine WL.val (by kernel_rfl) (.bool true) (by go_simp) ?_
            simp only [Act.put, List.setIfInBounds_toArray, List.set_cons_zero, List.set_cons_succ]
            refine WL.val (by kernel_rfl) (.bool true) (by go_simp) ?_
            simp only [Act.put, List.setIfInBounds_toArray, List.set_cons_zero, List.set_cons_succ]
            refine WL.row (by kernel_rfl) 27 (.tmp 13) rfl u5.heap.size rfl 27 (ndA 0 0 noS noS) _ HV8.out Try.underlying27 rfl (Try.size27B _ _ _ _) ?_
            simp only [Act.put, List.setIfInBounds_toArray, List.set_cons_zero, List.set_cons_succ]
            refine WL.bld (by kernel_rfl) 27 _ rfl [] (by simp) _ nd_built0 ?_
            simp only [Act.put, List.setIfInBounds_toArray, List.set_cons_zero, List.set_cons_succ]
            refine WL.callF (by kernel_rfl) 18 _ _ rfl Try.in18 #[.agg (ndA 0 0 noS noS), .agg (ndA 0 0 noS noS)] (by simp [Act.eval]) ?_
            refine (rsame_node zeroN zeroN noS noS noS noS u8 (ndAt_empty u8 zeroN rfl rfl (by decide) (by decide)) (ndAt_empty u8 zeroN rfl rfl (by decide) (by decide))).mono ?_
            rintro e u9 ⟨rfl, hbz⟩
            refine ⟨_, rfl, ?_⟩
            rw [sameN_refl]
            have Bu9 : Keep (Below w1.heap.size w1 u9) := ⟨Bu8.out.trans (hbz.mono Bu8.out.size)⟩
            clear hbz
            simp only [Act.put, List.setIfInBounds_toArray, List.set_cons_zero, List.set_cons_succ]
            refine WL.val (by kernel_rfl) (.bool true) (by go_simp) ?_
            simp only [Act.put, List.setIfInBounds_toArray, List.set_cons_zero, List.set_cons_succ]
            refine WL.val (by kernel_rfl) (.bool true) (by go_simp) ?_
            simp only [Act.put, List.setIfInBounds_toArray, List.set_cons_zero, List.set_cons_succ]
            refine WL.nil ?_
            refine hK31 _ _ ?_
            refine wp_ret ?_
            go_ret
            exact ⟨rfl, B1.out.trans (Bu9.out.mono B1x.out)⟩
    · have h6_2i : ¬ (0 : Int) < (M.length : Int) := by omega
      have hwad : IntKind.i64.wrap (((blkL N).length : Int) + (M.length : Int)) = ((blkL N).length : Int) + (M.length : Int) := by rw [IntKind.wrap_i64]; have := Hlen.out; have := HMl.out; omega
      refine WL.val (by kernel_rfl) (.bool false) (by go_simp) ?_
      simp only [Act.put, List.setIfInBounds_toArray, List.set_cons_zero, List.set_cons_succ]
      refine WL.val (by kernel_rfl) (.bool false) (by go_simp) ?_
      simp only [Act.put, List.setIfInBounds_toArray, List.set_cons_zero, List.set_cons_succ]
      refine WL.skip (by kernel_rfl) ?_
      simp only [Act.put, List.setIfInBounds_toArray, List.set_cons_zero, List.set_cons_succ]
      refine WL.skip (by kernel_rfl) ?_
      simp only [Act.put, List.setIfInBounds_toArray, List.set_cons_zero, List.set_cons_succ]
      refine WL.skip (by kernel_rfl) ?_
      simp only [Act.put, List.setIfInBounds_toArray, List.set_cons_zero, List.set_cons_succ]
      refine WL.skip (by kernel_rfl) ?_
      simp only [Act.put, List.setIfInBounds_toArray, List.set_cons_zero, List.set_cons_succ]
      refine WL.skip (by kernel_rfl) ?_
      simp only [Act.put, List.setIfInBounds_toArray, List.set_cons_zero, List.set_cons_succ]
      refine WL.skip (by kernel_rfl) ?_
      simp only [Act.put, List.setIfInBounds_toArray, List.set_cons_zero, List.set_cons_succ]
      refine WL.val (by kernel_rfl) (.bool false) (by go_simp) ?_
      simp only [Act.put, List.setIfInBounds_toArray, List.set_cons_zero, List.set_cons_succ]
      refine WL.nil ?_
      refine hK14 _ _ ?_
      refine wp_cond_false rfl ?_
      refine wp_skip ?_
      refine hK13 _ _ ?_
      refine wp_seq_k fun K32 hK32 => ?_
      refine wp_seq_k fun K33 hK33 => ?_
      obtain ⟨wt, Bt, HRt⟩ : ∃ wt, Keep (Below w1.heap.size w1 wt ∧ wt = w3) ∧ Keep (RowAt wt (.slice (some ⟨gb, 0, none⟩) (blkL N).length (blkL N).length) (blkL N)) := ⟨_, ⟨B3.out, rfl⟩, ⟨row_of HB3.out rfl⟩⟩
      rw [← Bt.out.2]
      refine wp_region_list (WL.out ?_)
      refine WL.val (by kernel_rfl) (.int .i64 c) (by go_simp) ?_
      simp only [Act.put, List.setIfInBounds_toArray, List.set_cons_zero, List.set_cons_succ]
      by_cases h11_1 : c < 0
      · skip
        refine WL.val (by kernel_rfl) (.bool true) (by go_simp) ?_
        simp only [Act.put, List.setIfInBounds_toArray, List.set_cons_zero, List.set_cons_succ]
        refine WL.val (by kernel_rfl) (.bool true) (by go_simp) ?_
        simp only [Act.put, List.setIfInBounds_toArray, List.set_cons_zero, List.set_cons_succ]
        refine WL.skip (by kernel_rfl) ?_
        simp only [Act.put, List.setIfInBounds_toArray, List.set_cons_zero, List.set_cons_succ]
        refine WL.skip (by kernel_rfl) ?_
        simp only [Act.put, List.setIfInBounds_toArray, List.set_cons_zero, List.set_cons_succ]
        refine WL.skip (by kernel_rfl) ?_
        simp only [Act.put, List.setIfInBounds_toArray, List.set_cons_zero, List.set_cons_succ]
        refine WL.skip (by kernel_rfl) ?_
        simp only [Act.put, List.setIfInBounds_toArray, List.set_cons_zero, List.set_cons_succ]
        refine WL.val (by kernel_rfl) (.bool true) (by go_simp) ?_
        simp only [Act.put, List.setIfInBounds_toArray, List.set_cons_zero, List.set_cons_succ]
        refine WL.nil ?_
        refine hK33 _ _ ?_
        refine wp_cond_true rfl ?_
        refine wp_seq_k fun K34 hK34 => ?_
        refine wp_region_list (WL.out ?_)
        refine WL.val (by kernel_rfl) (.bool true) (by go_simp) ?_
        simp only [Act.put, List.setIfInBounds_toArray, List.set_cons_zero, List.set_cons_succ]
        refine WL.nil ?_
        refine hK34 _ _ ?_
        refine wp_ret ?_
        go_ret
        exact ⟨rfl, B1.out.trans (Bt.out.1.mono B1x.out)⟩
      · skip
        refine WL.val (by kernel_rfl) (.bool false) (by go_simp) ?_
        simp only [Act.put, List.setIfInBounds_toArray, List.set_cons_zero, List.set_cons_succ]
        refine WL.val (by kernel_rfl) (.bool false) (by go_simp) ?_
        simp only [Act.put, List.setIfInBounds_toArray, List.set_cons_zero, List.set_cons_succ]
        refine WL.val (by kernel_rfl) (.int .i64 c) (by go_simp) ?_
        simp only [Act.put, List.setIfInBounds_toArray, List.set_cons_zero, List.set_cons_succ]
        refine WL.val (by kernel_rfl) (.slice (some ⟨gb, 0, none⟩) (blkL N).length (blkL N).length) (by go_simp) ?_
        simp only [Act.put, List.setIfInBounds_toArray, List.set_cons_zero, List.set_cons_succ]
        refine WL.val (by kernel_rfl) (.int .i64 ((blkL N).length : Int)) (by go_simp) ?_
        simp only [Act.put, List.setIfInBounds_toArray, List.set_cons_zero, List.set_cons_succ]
        by_cases h11_6 : ((blkL N).length : Int) ≤ c
        · skip
          refine WL.val (by kernel_rfl) (.bool true) (by go_simp) ?_
          simp only [Act.put, List.setIfInBounds_toArray, List.set_cons_zero, List.set_cons_succ]
          refine WL.val (by kernel_rfl) (.bool true) (by go_simp) ?_
          simp only [Act.put, List.setIfInBounds_toArray, List.set_cons_zero, List.set_cons_succ]
          refine WL.nil ?_
          refine hK33 _ _ ?_
          refine wp_cond_true rfl ?_
          refine wp_seq_k fun K35 hK35 => ?_
          refine wp_region_list (WL.out ?_)
          refine WL.val (by kernel_rfl) (.bool true) (by go_simp) ?_
          simp only [Act.put, List.setIfInBounds_toArray, List.set_cons_zero, List.set_cons_succ]
          refine WL.nil ?_
          refine hK35 _ _ ?_
          refine wp_ret ?_
          go_ret
          exact ⟨rfl, B1.out.trans (Bt.out.1.mono B1x.out)⟩
        · skip
          refine WL.val (by kernel_rfl) (.bool false) (by go_simp) ?_
          simp only [Act.put, List.setIfInBounds_toArray, List.set_cons_zero, List.set_cons_succ]
          refine WL.val (by kernel_rfl) (.bool false) (by go_simp) ?_
          simp only [Act.put, List.setIfInBounds_toArray, List.set_cons_zero, List.set_cons_succ]
          refine WL.nil ?_
          refine hK33 _ _ ?_
          refine wp_cond_false rfl ?_
          refine wp_skip ?_
          refine hK32 _ _ ?_
          refine wp_seq_k fun K36 hK36 => ?_
          obtain ⟨k, hk⟩ : ∃ k : Nat, c = (k : Int) := ⟨c.toNat, by omega⟩
          subst hk
          have hkl : k < (blkL N).length := by omega
          have hs1 := sl_run (some ⟨gb, 0, none⟩) (blkL N).length (blkL N).length k (by omega)
          have HD : Keep (RowAt wt (.slice (some ⟨gb, 0, none⟩) k (blkL N).length) ((blkL N).take k)) := ⟨by
            rcases HRt.out with ⟨e1, e2⟩ | ⟨a, c, e1, e2⟩ | ⟨h, off, cap, e1, e2, e3⟩
            · rw [e2] at hkl; exact absurd hkl (Nat.not_lt_zero _)
            · rw [e2] at hkl; exact absurd hkl (Nat.not_lt_zero _)
            · injection e1 with e4 e5 e6
              injection e4 with e4
              injection e4 with e7 e8
              refine .inr (.inr ⟨gb, 0, (blkL N).length, by rw [List.length_take, Nat.min_eq_left (by omega)], by rw [List.length_take]; omega, fun i hi => ?_⟩)
              rw [List.length_take] at hi
              have := e3 i (by omega)
              rw [← e7, ← e8] at this
              rw [this, List.getD_eq_getElem?_getD, List.getD_eq_getElem?_getD, List.getElem?_take, if_pos (by omega)]⟩
          refine wp_region_list (WL.out ?_)
          refine WL.val (by kernel_rfl) (.slice (some ⟨gb, 0, none⟩) (blkL N).length (blkL N).length) (by go_simp) ?_
          simp only [Act.put, List.setIfInBounds_toArray, List.set_cons_zero, List.set_cons_succ]
          refine WL.val (by kernel_rfl) (.int .i64 (k : Int)) (by go_simp) ?_
          simp only [Act.put, List.setIfInBounds_toArray, List.set_cons_zero, List.set_cons_succ]
          refine WL.val (by kernel_rfl) (.slice (some ⟨gb, 0, none⟩) k (blkL N).length) (by go_simp) ?_
          simp only [Act.put, List.setIfInBounds_toArray, List.set_cons_zero, List.set_cons_succ]
          refine WL.callF (by kernel_rfl) 16 _ _ rfl Try.in16 #[.slice (some ⟨gb, 0, none⟩) k (blkL N).length] (by simp [Act.eval]) ?_
          refine (decode_any _ ((blkL N).take k) wt HD.out ((HbyN.out Hch.out).take k)).mono ?_
          rintro e u5 h5
          obtain ⟨q, at_, hq5, rfl, hat, hbad5, hb5⟩ : ∃ q at_, wt.heap.size ≤ q ∧ e = .returned (.tuple #[.agg (ndA 0 0 noS noS), err q]) ∧ at_ ≤ k ∧ BadAt u5 q 20 at_ ∧ Below wt.heap.size wt u5 := by
            have hlt : ((blkL N).take k).length = k := by rw [List.length_take]; omega
            have hd := decR_short Hch.out HN.out.ok (D := (blkL N).take k) (m := (blkL N).drop k) (List.take_append_drop _ _) (by intro e0; have := congrArg List.length e0; rw [List.length_drop] at this; simp only [List.length_nil] at this; omega)
            have hl : ¬ 1048576 < ((blkL N).take k).length := by rw [hlt]; have := Hlen.out; omega
            have hbr : badR ((blkL N).take k) = (20, (decR ((blkL N).take k)).2.1) := by unfold badR; rw [if_neg hl, hd.1]
            unfold DecPost at h5
            rw [hbr] at h5
            rcases h5 with ⟨_, h5, _⟩ | ⟨_, q, h6, h7, h8, h9⟩
            · rw [hd.1] at h5; exact absurd h5 (by decide)
            · exact ⟨q, _, h6, h7, by have := hd.2; rw [hlt] at this; exact this, h8, h9⟩
          refine ⟨_, rfl, ?_⟩
          clear h5
          unfold err
          have HBd5 := Keep.mk hbad5
          have Bu5 : Keep (Below w1.heap.size w1 u5) := ⟨Bt.out.1.trans (hb5.mono Bt.out.1.size)⟩
          have hati : (at_ : Int) ≤ (k : Int) := by omega
          clear hbad5 hb5 hs1 hq5
          simp only [Act.put, List.setIfInBounds_toArray, List.set_cons_zero, List.set_cons_succ]
          refine WL.val (by kernel_rfl) (.tuple #[.agg (ndA 0 0 noS noS), .iface 68 (ptr q)]) (by go_simp) ?_
          simp only [Act.put, List.setIfInBounds_toArray, List.set_cons_zero, List.set_cons_succ]
          refine WL.val (by kernel_rfl) (.agg (ndA 0 0 noS noS)) (by go_simp) ?_
          simp only [Act.put, List.setIfInBounds_toArray, List.set_cons_zero, List.set_cons_succ]
          refine WL.val (by kernel_rfl) (.iface 68 (ptr q)) (by go_simp) ?_
          simp only [Act.put, List.setIfInBounds_toArray, List.set_cons_zero, List.set_cons_succ]
          refine WL.new (by kernel_rfl) 27 rfl _ Try.new27N ?_
          simp only [Act.put, List.setIfInBounds_toArray, List.set_cons_zero, List.set_cons_succ]
          refine WL.storeR (by kernel_rfl) 27 (.tmp 13) (.tmp 87) rfl u5.heap.size (ndA 0 0 noS noS) rfl rfl 27 (ndA 0 0 noS noS) (Blk.new u5 27 _) (Try.size27B _ _ _ _) rfl (nd_one 0 0 none 0 0 none 0 0) ?_
          have HV6 := Keep.mk ((Blk.new u5 27 (ndA 0 0 noS noS)).setRow (ndA 0 0 noS noS))
          have BV6 : Keep (Below u5.heap.size u5 ((u5.alloc (.cells (ndA 0 0 noS noS) 27)).setRow u5.heap.size (ndA 0 0 noS noS))) := ⟨below_setRow (below_new u5 _) (Nat.le_refl _) _⟩
          generalize (u5.alloc (.cells (ndA 0 0 noS noS) 27)).setRow u5.heap.size (ndA 0 0 noS noS) = u6 at *
          have Bu6 : Keep (Below w1.heap.size w1 u6) := ⟨Bu5.out.trans (BV6.out.mono Bu5.out.size)⟩
          have HC6 : Keep (BadAt u6 q 20 at_) := ⟨HBd5.out.below BV6.out HBd5.out.lt⟩
          simp only [Act.put]
          refine WL.val (by kernel_rfl) (.iface 68 (ptr q)) (by go_simp) ?_
          simp only [Act.put, List.setIfInBounds_toArray, List.set_cons_zero, List.set_cons_succ]
          refine WL.nil ?_
          refine hK36 _ _ ?_
          refine wp_seq_k fun K37 hK37 => ?_
          refine wp_region_list (WL.out ?_)
          refine WL.val (by kernel_rfl) (.iface 68 (ptr q)) (by go_simp) ?_
          simp only [Act.put, List.setIfInBounds_toArray, List.set_cons_zero, List.set_cons_succ]
          refine WL.callF (by kernel_rfl) 21 _ _ rfl Try.in21 #[.iface 68 (ptr q)] (by simp [Act.eval]) ?_
          refine (told_err q 20 at_ u6 HC6.out (by decide)).mono ?_
          rintro e u7 ⟨rfl, hb7⟩
          refine ⟨_, rfl, ?_⟩
          have Bu7 : Keep (Below w1.heap.size w1 u7) := ⟨Bu6.out.trans (hb7.mono Bu6.out.size)⟩
          have HV7 := Keep.mk (HV6.out.below hb7 HV6.out.lt)
          clear hb7
          simp only [Act.put, List.setIfInBounds_toArray, List.set_cons_zero, List.set_cons_succ]
          refine WL.val (by kernel_rfl) (.tuple #[.agg (erA 20 (at_ : Int)), .bool true]) (by go_simp) ?_
          simp only [Act.put, List.setIfInBounds_toArray, List.set_cons_zero, List.set_cons_succ]
          refine WL.val (by kernel_rfl) (.agg (erA 20 (at_ : Int))) (by go_simp) ?_
          simp only [Act.put, List.setIfInBounds_toArray, List.set_cons_zero, List.set_cons_succ]
          refine WL.val (by kernel_rfl) (.bool true) (by go_simp) ?_
          simp only [Act.put, List.setIfInBounds_toArray, List.set_cons_zero, List.set_cons_succ]
          refine WL.new (by kernel_rfl) 49 rfl _ Try.new49E ?_
          simp only [Act.put, List.setIfInBounds_toArray, List.set_cons_zero, List.set_cons_succ]
          refine WL.storeR (by kernel_rfl) 49 (.tmp 15) (.tmp 92) rfl u7.heap.size (erA 20 (at_ : Int)) rfl rfl 49 (erA 0 0) (Blk.new u7 49 _) (Try.size49B _ _) (erA_sizes _ _ _ _) (erA_one _ _) ?_
          have HF8 := Keep.mk ((Blk.new u7 49 (erA 0 0)).setRow (erA 20 (at_ : Int)))
          have BV8 : Keep (Below u7.heap.size u7 ((u7.alloc (.cells (erA 0 0) 49)).setRow u7.heap.size (erA 20 (at_ : Int)))) := ⟨below_setRow (below_new u7 _) (Nat.le_refl _) _⟩
          generalize (u7.alloc (.cells (erA 0 0) 49)).setRow u7.heap.size (erA 20 (at_ : Int)) = u8 at *
          have Bu8 : Keep (Below w1.heap.size w1 u8) := ⟨Bu7.out.trans (BV8.out.mono Bu7.out.size)⟩
          have HV8 := Keep.mk (HV7.out.below BV8.out HV7.out.lt)
          have z0 : u8.cell? ⟨u7.heap.size, 0, none⟩ = some (.int .i64 20) := HF8.out.c 0 rfl
          have z1 : u8.cell? ⟨u7.heap.size, 1, none⟩ = some (.int .i64 (at_ : Int)) := HF8.out.c 1 rfl
          simp only [Act.put]
          refine WL.val (by kernel_rfl) (.bool true) (by go_simp) ?_
          simp only [Act.put, List.setIfInBounds_toArray, List.set_cons_zero, List.set_cons_succ]
          refine WL.nil ?_
          refine hK37 _ _ ?_
          refine wp_seq_k fun K38 hK38 => ?_
          refine wp_region_list (WL.out ?_)
          refine WL.val (by kernel_rfl) (.bool true) (by go_simp) ?_
          simp only [Act.put, List.setIfInBounds_toArray, List.set_cons_zero, List.set_cons_succ]
          refine WL.val (by kernel_rfl) (.bool true) (by go_simp) ?_
          simp only [Act.put, List.setIfInBounds_toArray, List.set_cons_zero, List.set_cons_succ]
          refine WL.val (by kernel_rfl) (.pointer (some ⟨u7.heap.size, 0, none⟩)) (by go_simp) ?_
          simp only [Act.put, List.setIfInBounds_toArray, List.set_cons_zero, List.set_cons_succ]
          refine WL.val (by kernel_rfl) (.int .i64 20) (by go_simp) ?_
          simp only [Act.put, List.setIfInBounds_toArray, List.set_cons_zero, List.set_cons_succ]
          refine WL.val (by kernel_rfl) (.bool true) (by go_simp) ?_
          simp only [Act.put, List.setIfInBounds_toArray, List.set_cons_zero, List.set_cons_succ]
          refine WL.val (by kernel_rfl) (.bool true) (by go_simp) ?_
          simp only [Act.put, List.setIfInBounds_toArray, List.set_cons_zero, List.set_cons_succ]
          refine WL.val (by kernel_rfl) (.bool true) (by go_simp) ?_
          simp only [Act.put, List.setIfInBounds_toArray, List.set_cons_zero, List.set_cons_succ]
          refine WL.val (by kernel_rfl) (.pointer (some ⟨u7.heap.size, 1, none⟩)) (by go_simp) ?_
          simp only [Act.put, List.setIfInBounds_toArray, List.set_cons_zero, List.set_cons_succ]
          refine WL.val (by kernel_rfl) (.int .i64 (at_ : Int)) (by go_simp) ?_
          simp only [Act.put, List.setIfInBounds_toArray, List.set_cons_zero, List.set_cons_succ]
          refine WL.val (by kernel_rfl) (.int .i64 (k : Int)) (by go_simp) ?_
          simp only [Act.put, List.setIfInBounds_toArray, List.set_cons_zero, List.set_cons_succ]
          refine WL.val (by kernel_rfl) (.bool true) (by go_simp) ?_
          simp only [Act.put, List.setIfInBounds_toArray, List.set_cons_zero, List.set_cons_succ]
          refine WL.val (by kernel_rfl) (.bool true) (by go_simp) ?_
          simp only [Act.put, List.setIfInBounds_toArray, List.set_cons_zero, List.set_cons_succ]
          refine WL.val (by kernel_rfl) (.bool true) (by go_simp) ?_
          simp only [Act.put, List.setIfInBounds_toArray, List.set_cons_zero, List.set_cons_succ]
          refine WL.row (by kernel_rfl) 27 (.tmp 13) rfl u5.heap.size rfl 27 (ndA 0 0 noS noS) _ HV8.out Try.underlying27 rfl (Try.size27B _ _ _ _) ?_
          simp only [Act.put, List.setIfInBounds_toArray, List.set_cons_zero, List.set_cons_succ]
          refine WL.bld (by kernel_rfl) 27 _ rfl [] (by simp) _ nd_built0 ?_
          simp only [Act.put, List.setIfInBounds_toArray, List.set_cons_zero, List.set_cons_succ]
          refine WL.callF (by kernel_rfl) 18 _ _ rfl Try.in18 #[.agg (ndA 0 0 noS noS), .agg (ndA 0 0 noS noS)] (by simp [Act.eval]) ?_
          refine (rsame_node zeroN zeroN noS noS noS noS u8 (ndAt_empty u8 zeroN rfl rfl (by decide) (by decide)) (ndAt_empty u8 zeroN rfl rfl (by decide) (by decide))).mono ?_
          rintro e u9 ⟨rfl, hbz⟩
          refine ⟨_, rfl, ?_⟩
          rw [sameN_refl]
          have Bu9 : Keep (Below w1.heap.size w1 u9) := ⟨Bu8.out.trans (hbz.mono Bu8.out.size)⟩
          clear hbz
          simp only [Act.put, List.setIfInBounds_toArray, List.set_cons_zero, List.set_cons_succ]
          refine WL.val (by kernel_rfl) (.bool true) (by go_simp) ?_
          simp only [Act.put, List.setIfInBounds_toArray, List.set_cons_zero, List.set_cons_succ]
          refine WL.val (by kernel_rfl) (.bool true) (by go_simp) ?_
          simp only [Act.put, List.setIfInBounds_toArray, List.set_cons_zero, List.set_cons_succ]
          refine WL.nil ?_
          refine hK38 _ _ ?_
          refine wp_ret ?_
          go_ret
          exact ⟨rfl, B1.out.trans (Bu9.out.mono B1x.out)⟩
end Go.Proofs.Ytgpgnldcdimmbaa
