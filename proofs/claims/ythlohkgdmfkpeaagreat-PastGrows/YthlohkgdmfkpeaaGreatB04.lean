import Derived.Test.YthlohkgdmfkpeaaGreatB02
import Derived.Test.YthlohkgdmfkpeaaGreatB01
import Derived.Test.YthlohkgdmfkpeaaGreatB03
import Derived.ChangeKeysEq
import Derived.Sort.Grow
import Derived.Deep.Draws
import Derived.Deep.QuietTactic
import Derived.BigQuiet
import Derived.Deep.RegionHeld3
import Derived.Laws.StructEq
import Derived.ProofKit
import Derived.OpenShut
import Derived.ShutString
import Derived.ChangeOld
import Derived.Below
import Derived.SizedLaws
import Derived.Deep.Slices
import Derived.Deep.Strs
set_option linter.unusedSimpArgs false
set_option linter.unusedVariables false
namespace Go.Proofs.YthlohkgdmfkpeaaGreat.Nd.Sh
open Go.RowKit Go.Sort
end Go.Proofs.YthlohkgdmfkpeaaGreat.Nd.Sh
namespace Go.Proofs.YthlohkgdmfkpeaaGreat.Nd
open Go.RowKit
theorem run_eqlHL (c e : List Int) (w : World) : (binOp .eql 36 (.agg (bytesA 32 (hof c)).toList.toArray) (.agg (bytesA 32 (hof e)).toList.toArray)).run Tryz.prog w = .ok (.bool (nd c e)) w := by rw [Array.toArray_toList, Array.toArray_toList]; exact run_eqlH c e w
theorem opA_range {w : World} {g : Nat} {T : TypeId} {x : OpV} (h : Blk w g T (opA x)) : w.rangeAt g 4 (idL x.node x.op) := fun j v hv => by
 rw [h.cell]; unfold opA; rw [List.getElem?_toArray, ← List.getElem?_drop, opL_at]; exact hv
theorem opA_nodes {w : World} {g : Nat} {T : TypeId} {x : OpV} (h : Blk w g T (opA x)) : w.rangeAt g 4 (bytesA 32 (hof x.node)).toList := fun j v hv => by
 rw [hl_bytesA, ← idL_node x.node x.op, List.getElem?_take] at hv
 split at hv
 ·exact opA_range h j v hv
 ·cases hv
theorem sm_alt (x y : OpV) : sm x y = ((x.kind == y.kind) && ((x.key.toList == y.key.toList) && ((x.text.toList == y.text.toList) && ((x.n == y.n) && ((x.op == y.op) && nd x.node y.node))))) := by
 unfold sm
 rw [beq_toListBytes, beq_toListBytes, Bool.and_comm (nd x.node y.node)]
set_option maxRecDepth 8000 in
set_option maxHeartbeats 2000000 in
theorem rsame_any (x y : OpV) (w : World) : Calls Tryz.prog 83 #[.agg (opA x), .agg (opA y)] w fun e w' => e = .returned (.bool (sm x y)) ∧ Below w.heap.size w w' := by
 have HX := Keep.mk ((Blk.new w 119 (opA x)).alloc (.cells (opA y) 119))
 have HY : Keep (Blk ((w.alloc (.cells (opA x) 119)).alloc (.cells (opA y) 119)) (w.heap.size + 1) 119 (opA y)) := ⟨by
  have h := Blk.new (w.alloc (.cells (opA x) 119)) 119 (opA y)
  simp only [World.size_alloc] at h
  exact h⟩
 have HB : Keep (Below w.heap.size w ((w.alloc (.cells (opA x) 119)).alloc (.cells (opA y) 119))) := ⟨(below_new w _).alloc (by simp) _⟩
 have HA := Keep.mk (sm_alt x y)
 obtain ⟨w1, hw1⟩ : ∃ w1, Keep ((w.alloc (.cells (opA x) 119)).alloc (.cells (opA y) 119) = w1) := ⟨_, ⟨rfl⟩⟩
 rw [hw1.out] at HX HY HB
 have a0 : w1.cell? ⟨w.heap.size, 0, none⟩ = some (.int .i64 x.kind) := by rw [HX.out.cell, opA_0]
 have a1 : w1.cell? ⟨w.heap.size, 1, none⟩ = some (.string x.key) := by rw [HX.out.cell, opA_1]
 have a2 : w1.cell? ⟨w.heap.size, 2, none⟩ = some (.string x.text) := by rw [HX.out.cell, opA_2]
 have a3 : w1.cell? ⟨w.heap.size, 3, none⟩ = some (.int .i64 x.n) := by rw [HX.out.cell, opA_3]
 have a4 : w1.cell? ⟨w.heap.size, 36, none⟩ = some (.int .i64 x.op) := by rw [HX.out.cell, opA_36]
 have b0 : w1.cell? ⟨w.heap.size + 1, 0, none⟩ = some (.int .i64 y.kind) := by rw [HY.out.cell, opA_0]
 have b1 : w1.cell? ⟨w.heap.size + 1, 1, none⟩ = some (.string y.key) := by rw [HY.out.cell, opA_1]
 have b2 : w1.cell? ⟨w.heap.size + 1, 2, none⟩ = some (.string y.text) := by rw [HY.out.cell, opA_2]
 have b3 : w1.cell? ⟨w.heap.size + 1, 3, none⟩ = some (.int .i64 y.n) := by rw [HY.out.cell, opA_3]
 have b4 : w1.cell? ⟨w.heap.size + 1, 36, none⟩ = some (.int .i64 y.op) := by rw [HY.out.cell, opA_36]
 have HRx := Keep.mk (opA_nodes HX.out)
 have HRy := Keep.mk (opA_nodes HY.out)
 have he := run_eqlHL x.node y.node
 have hsx := Keep.mk (Tryz.size36L x.node)
 have hsy := Keep.mk (Tryz.size36L y.node)
 generalize nd x.node y.node = E at *
 generalize (bytesA 32 (hof x.node)).toList = cX at *
 generalize (bytesA 32 (hof y.node)).toList = cY at *
 generalize sm x y = R at *
 go_enter Tryz.func83, Tryz.ntmps83
 cases e0 : (x.kind == y.kind)
 ·refine wp_seq_k fun K1 hK1 => ?_
  refine wp_region_list ?_
  refine wpList_boxA rfl 119 (.tmp 0) rfl (opA x) rfl ?_
  refine wpList_boxA rfl 119 (.tmp 1) rfl (opA y) rfl ?_
  rw [hw1.out]
  refine WL.out (WL.val (by kernel_rfl) (.bool false) (by go_simp) (WL.nil (hK1 _ _ ?_)))
  refine wp_seq_k fun K2 hK2 => rgn ?_
  refine VlS (.pointer (some ⟨w.heap.size, 0, none⟩)) ?_
  refine VlS (.int .i64 x.kind) ?_
  refine VlS (.pointer (some ⟨w.heap.size + 1, 0, none⟩)) ?_
  refine VlS (.int .i64 y.kind) ?_
  refine VbF ?_
  refine VbF ?_
  refine SkS ?_
  refine SkS ?_
  refine SkS ?_
  refine SkS ?_
  refine SkS ?_
  refine VbF ?_
  refine VbF ?_
  refine SkS ?_
  refine SkS ?_
  refine SkS ?_
  refine SkS ?_
  refine SkS ?_
  refine VbF ?_
  refine VbF ?_
  refine SkS ?_
  refine SkS ?_
  refine SkS ?_
  refine SkS ?_
  refine SkS ?_
  refine VbF ?_
  refine VbF ?_
  refine SkS ?_
  refine SkS ?_
  refine SkS ?_
  refine SkS ?_
  refine SkS ?_
  refine SkS ?_
  refine SkS ?_
  refine VbF ?_
  refine VbF ?_
  refine SkS ?_
  refine SkS ?_
  refine SkS ?_
  refine SkS ?_
  refine SkS ?_
  refine SkS ?_
  refine SkS ?_
  refine VbF ?_
  refine VbF ?_
  refine WL.nil (hK2 _ _ ?_)
  go_wp2
  go_ret
  exact ⟨by rw [HA.out, e0]; rfl, HB.out⟩
 ·cases e1 : (x.key.toList == y.key.toList)
  ·refine wp_seq_k fun K1 hK1 => ?_
   refine wp_region_list ?_
   refine wpList_boxA rfl 119 (.tmp 0) rfl (opA x) rfl ?_
   refine wpList_boxA rfl 119 (.tmp 1) rfl (opA y) rfl ?_
   rw [hw1.out]
   refine WL.out (WL.val (by kernel_rfl) (.bool false) (by go_simp) (WL.nil (hK1 _ _ ?_)))
   refine wp_seq_k fun K2 hK2 => rgn ?_
   refine VlS (.pointer (some ⟨w.heap.size, 0, none⟩)) ?_
   refine VlS (.int .i64 x.kind) ?_
   refine VlS (.pointer (some ⟨w.heap.size + 1, 0, none⟩)) ?_
   refine VlS (.int .i64 y.kind) ?_
   refine VbT ?_
   refine VbT ?_
   refine VlS (.pointer (some ⟨w.heap.size, 1, none⟩)) ?_
   refine VlS (.string x.key) ?_
   refine VlS (.pointer (some ⟨w.heap.size + 1, 1, none⟩)) ?_
   refine VlS (.string y.key) ?_
   refine VbF ?_
   refine VbF ?_
   refine VbF ?_
   refine SkS ?_
   refine SkS ?_
   refine SkS ?_
   refine SkS ?_
   refine SkS ?_
   refine VbF ?_
   refine VbF ?_
   refine SkS ?_
   refine SkS ?_
   refine SkS ?_
   refine SkS ?_
   refine SkS ?_
   refine VbF ?_
   refine VbF ?_
   refine SkS ?_
   refine SkS ?_
   refine SkS ?_
   refine SkS ?_
   refine SkS ?_
   refine SkS ?_
   refine SkS ?_
   refine VbF ?_
   refine VbF ?_
   refine SkS ?_
   refine SkS ?_
   refine SkS ?_
   refine SkS ?_
   refine SkS ?_
   refine SkS ?_
   refine SkS ?_
   refine VbF ?_
   refine VbF ?_
   refine WL.nil (hK2 _ _ ?_)
   go_wp2
   go_ret
   exact ⟨by rw [HA.out, e0, e1]; rfl, HB.out⟩
  ·cases e2 : (x.text.toList == y.text.toList)
   ·refine wp_seq_k fun K1 hK1 => ?_
    refine wp_region_list ?_
    refine wpList_boxA rfl 119 (.tmp 0) rfl (opA x) rfl ?_
    refine wpList_boxA rfl 119 (.tmp 1) rfl (opA y) rfl ?_
    rw [hw1.out]
    refine WL.out (WL.val (by kernel_rfl) (.bool false) (by go_simp) (WL.nil (hK1 _ _ ?_)))
    refine wp_seq_k fun K2 hK2 => rgn ?_
    refine VlS (.pointer (some ⟨w.heap.size, 0, none⟩)) ?_
    refine VlS (.int .i64 x.kind) ?_
    refine VlS (.pointer (some ⟨w.heap.size + 1, 0, none⟩)) ?_
    refine VlS (.int .i64 y.kind) ?_
    refine VbT ?_
    refine VbT ?_
    refine VlS (.pointer (some ⟨w.heap.size, 1, none⟩)) ?_
    refine VlS (.string x.key) ?_
    refine VlS (.pointer (some ⟨w.heap.size + 1, 1, none⟩)) ?_
    refine VlS (.string y.key) ?_
    refine VbT ?_
    refine VbT ?_
    refine VbT ?_
    refine VlS (.pointer (some ⟨w.heap.size, 2, none⟩)) ?_
    refine VlS (.string x.text) ?_
    refine VlS (.pointer (some ⟨w.heap.size + 1, 2, none⟩)) ?_
    refine VlS (.string y.text) ?_
    refine VbF ?_
    refine VbF ?_
    refine VbF ?_
    refine SkS ?_
    refine SkS ?_
    refine SkS ?_
    refine SkS ?_
    refine SkS ?_
    refine VbF ?_
    refine VbF ?_
    refine SkS ?_
    refine SkS ?_
    refine SkS ?_
    refine SkS ?_
    refine SkS ?_
    refine SkS ?_
    refine SkS ?_
    refine VbF ?_
    refine VbF ?_
    refine SkS ?_
    refine SkS ?_
    refine SkS ?_
    refine SkS ?_
    refine SkS ?_
    refine SkS ?_
    refine SkS ?_
    refine VbF ?_
    refine VbF ?_
    refine WL.nil (hK2 _ _ ?_)
    go_wp2
    go_ret
    exact ⟨by rw [HA.out, e0, e1, e2]; rfl, HB.out⟩
   ·cases e3 : (x.n == y.n)
    ·refine wp_seq_k fun K1 hK1 => ?_
     refine wp_region_list ?_
     refine wpList_boxA rfl 119 (.tmp 0) rfl (opA x) rfl ?_
     refine wpList_boxA rfl 119 (.tmp 1) rfl (opA y) rfl ?_
     rw [hw1.out]
     refine WL.out (WL.val (by kernel_rfl) (.bool false) (by go_simp) (WL.nil (hK1 _ _ ?_)))
     refine wp_seq_k fun K2 hK2 => rgn ?_
     refine VlS (.pointer (some ⟨w.heap.size, 0, none⟩)) ?_
     refine VlS (.int .i64 x.kind) ?_
     refine VlS (.pointer (some ⟨w.heap.size + 1, 0, none⟩)) ?_
     refine VlS (.int .i64 y.kind) ?_
     refine VbT ?_
     refine VbT ?_
     refine VlS (.pointer (some ⟨w.heap.size, 1, none⟩)) ?_
     refine VlS (.string x.key) ?_
     refine VlS (.pointer (some ⟨w.heap.size + 1, 1, none⟩)) ?_
     refine VlS (.string y.key) ?_
     refine VbT ?_
     refine VbT ?_
     refine VbT ?_
     refine VlS (.pointer (some ⟨w.heap.size, 2, none⟩)) ?_
     refine VlS (.string x.text) ?_
     refine VlS (.pointer (some ⟨w.heap.size + 1, 2, none⟩)) ?_
     refine VlS (.string y.text) ?_
     refine VbT ?_
     refine VbT ?_
     refine VbT ?_
     refine VlS (.pointer (some ⟨w.heap.size, 3, none⟩)) ?_
     refine VlS (.int .i64 x.n) ?_
     refine VlS (.pointer (some ⟨w.heap.size + 1, 3, none⟩)) ?_
     refine VlS (.int .i64 y.n) ?_
     refine VbF ?_
     refine VbF ?_
     refine VbF ?_
     refine SkS ?_
     refine SkS ?_
     refine SkS ?_
     refine SkS ?_
     refine SkS ?_
     refine SkS ?_
     refine SkS ?_
     refine VbF ?_
     refine VbF ?_
     refine SkS ?_
     refine SkS ?_
     refine SkS ?_
     refine SkS ?_
     refine SkS ?_
     refine SkS ?_
     refine SkS ?_
     refine VbF ?_
     refine VbF ?_
     refine WL.nil (hK2 _ _ ?_)
     go_wp2
     go_ret
     exact ⟨by rw [HA.out, e0, e1, e2, e3]; rfl, HB.out⟩
    ·cases e4 : (x.op == y.op)
     ·refine wp_seq_k fun K1 hK1 => ?_
      refine wp_region_list ?_
      refine wpList_boxA rfl 119 (.tmp 0) rfl (opA x) rfl ?_
      refine wpList_boxA rfl 119 (.tmp 1) rfl (opA y) rfl ?_
      rw [hw1.out]
      refine WL.out (WL.val (by kernel_rfl) (.bool false) (by go_simp) (WL.nil (hK1 _ _ ?_)))
      refine wp_seq_k fun K2 hK2 => rgn ?_
      refine VlS (.pointer (some ⟨w.heap.size, 0, none⟩)) ?_
      refine VlS (.int .i64 x.kind) ?_
      refine VlS (.pointer (some ⟨w.heap.size + 1, 0, none⟩)) ?_
      refine VlS (.int .i64 y.kind) ?_
      refine VbT ?_
      refine VbT ?_
      refine VlS (.pointer (some ⟨w.heap.size, 1, none⟩)) ?_
      refine VlS (.string x.key) ?_
      refine VlS (.pointer (some ⟨w.heap.size + 1, 1, none⟩)) ?_
      refine VlS (.string y.key) ?_
      refine VbT ?_
      refine VbT ?_
      refine VbT ?_
      refine VlS (.pointer (some ⟨w.heap.size, 2, none⟩)) ?_
      refine VlS (.string x.text) ?_
      refine VlS (.pointer (some ⟨w.heap.size + 1, 2, none⟩)) ?_
      refine VlS (.string y.text) ?_
      refine VbT ?_
      refine VbT ?_
      refine VbT ?_
      refine VlS (.pointer (some ⟨w.heap.size, 3, none⟩)) ?_
      refine VlS (.int .i64 x.n) ?_
      refine VlS (.pointer (some ⟨w.heap.size + 1, 3, none⟩)) ?_
      refine VlS (.int .i64 y.n) ?_
      refine VbT ?_
      refine VbT ?_
      refine VbT ?_
      refine VlS (.pointer (some ⟨w.heap.size, 4, none⟩)) ?_
      refine VlS (.pointer (some ⟨w.heap.size, 36, none⟩)) ?_
      refine VlS (.int .i64 x.op) ?_
      refine VlS (.pointer (some ⟨w.heap.size + 1, 4, none⟩)) ?_
      refine VlS (.pointer (some ⟨w.heap.size + 1, 36, none⟩)) ?_
      refine VlS (.int .i64 y.op) ?_
      refine VbF ?_
      refine VbF ?_
      refine VbF ?_
      refine SkS ?_
      refine SkS ?_
      refine SkS ?_
      refine SkS ?_
      refine SkS ?_
      refine SkS ?_
      refine SkS ?_
      refine VbF ?_
      refine VbF ?_
      refine WL.nil (hK2 _ _ ?_)
      go_wp2
      go_ret
      exact ⟨by rw [HA.out, e0, e1, e2, e3, e4]; rfl, HB.out⟩
     ·refine wp_seq_k fun K1 hK1 => ?_
      refine wp_region_list ?_
      refine wpList_boxA rfl 119 (.tmp 0) rfl (opA x) rfl ?_
      refine wpList_boxA rfl 119 (.tmp 1) rfl (opA y) rfl ?_
      rw [hw1.out]
      refine WL.out (WL.val (by kernel_rfl) (.bool false) (by go_simp) (WL.nil (hK1 _ _ ?_)))
      refine wp_seq_k fun K2 hK2 => rgn ?_
      refine VlS (.pointer (some ⟨w.heap.size, 0, none⟩)) ?_
      refine VlS (.int .i64 x.kind) ?_
      refine VlS (.pointer (some ⟨w.heap.size + 1, 0, none⟩)) ?_
      refine VlS (.int .i64 y.kind) ?_
      refine VbT ?_
      refine VbT ?_
      refine VlS (.pointer (some ⟨w.heap.size, 1, none⟩)) ?_
      refine VlS (.string x.key) ?_
      refine VlS (.pointer (some ⟨w.heap.size + 1, 1, none⟩)) ?_
      refine VlS (.string y.key) ?_
      refine VbT ?_
      refine VbT ?_
      refine VbT ?_
      refine VlS (.pointer (some ⟨w.heap.size, 2, none⟩)) ?_
      refine VlS (.string x.text) ?_
      refine VlS (.pointer (some ⟨w.heap.size + 1, 2, none⟩)) ?_
      refine VlS (.string y.text) ?_
      refine VbT ?_
      refine VbT ?_
      refine VbT ?_
      refine VlS (.pointer (some ⟨w.heap.size, 3, none⟩)) ?_
      refine VlS (.int .i64 x.n) ?_
      refine VlS (.pointer (some ⟨w.heap.size + 1, 3, none⟩)) ?_
      refine VlS (.int .i64 y.n) ?_
      refine VbT ?_
      refine VbT ?_
      refine VbT ?_
      refine VlS (.pointer (some ⟨w.heap.size, 4, none⟩)) ?_
      refine VlS (.pointer (some ⟨w.heap.size, 36, none⟩)) ?_
      refine VlS (.int .i64 x.op) ?_
      refine VlS (.pointer (some ⟨w.heap.size + 1, 4, none⟩)) ?_
      refine VlS (.pointer (some ⟨w.heap.size + 1, 36, none⟩)) ?_
      refine VlS (.int .i64 y.op) ?_
      refine VbT ?_
      refine VbT ?_
      refine VbT ?_
      refine VlS (.pointer (some ⟨w.heap.size, 4, none⟩)) ?_
      refine VlS (.pointer (some ⟨w.heap.size, 4, none⟩)) ?_
      refine WL.mid (by kernel_rfl) 36 (.tmp 42) rfl w.heap.size 4 rfl cX _ HRx.out Tryz.underlying36 rfl hsx.out ?_
      simp only [Act.put, pqA, pqB, pqC]
      refine VlS (.pointer (some ⟨w.heap.size + 1, 4, none⟩)) ?_
      refine VlS (.pointer (some ⟨w.heap.size + 1, 4, none⟩)) ?_
      refine WL.mid (by kernel_rfl) 36 (.tmp 45) rfl (w.heap.size + 1) 4 rfl cY _ HRy.out Tryz.underlying36 rfl hsy.out ?_
      simp only [Act.put, pqA, pqB, pqC]
      refine VlS (.bool E) ?_
      refine VlS (.bool E) ?_
      refine VlS (.bool E) ?_
      refine WL.nil (hK2 _ _ ?_)
      go_wp2
      go_ret
      exact ⟨by rw [HA.out, e0, e1, e2, e3, e4]; rfl, HB.out⟩
end Go.Proofs.YthlohkgdmfkpeaaGreat.Nd
namespace Go.Proofs.YthlohkgdmfkpeaaGreat.Nd
open Go.RowKit
theorem Tryz.in83 (w : World) (vs : Array Value) : (callFunc 83 vs).run Tryz.prog w = .ok (.enter 83 vs) w := by kernel_rfl
end Go.Proofs.YthlohkgdmfkpeaaGreat.Nd
namespace Go.Proofs.YthlohkgdmfkpeaaGreat.Nd
open Go.RowKit
theorem Tryz.sizeHL (h : Hs) : (Tryz.prog.info? 36).map (·.size) = some (Sh.encH h).length := by rw [Sh.encH_len]; exact Tryz.size36
end Go.Proofs.YthlohkgdmfkpeaaGreat.Nd
namespace Go.Proofs.YthlohkgdmfkpeaaGreat.Nd
open Go.RowKit
def smL (a b : List OpV) : Bool := decide (a.length = b.length) && (List.range a.length).all fun i => sm (a.getD i zeroOp) (b.getD i zeroOp)
def sameN (A B : NodeV) : Bool := decide (A.au = B.au) && (decide (A.ck = B.ck) && (decide (A.ps = B.ps) && smL A.ops B.ops))
theorem ps_eq {a b : List Hs} (h : a.length = b.length) (he : ∀ i, i < a.length → a.getD i default = b.getD i default) : a = b := List.ext_getElem h fun i h1 h2 => by
 have := he i h1
 rwa [show a.getD i default = a[i] by simp [List.getD_eq_getElem?_getD, h1], show b.getD i default = b[i] by simp [List.getD_eq_getElem?_getD, h2]] at this
theorem neqH_run (x y : Hs) (b : Bool) (h : decide (x = y) = b) (w : World) : (binOp .neq 36 (.agg (Sh.encH x).toArray) (.agg (Sh.encH y).toArray)).run Tryz.prog w = .ok (.bool (!b)) w := by
 rw [Sh.run_neqL, h]
theorem HRow.elem {w : World} {a : Option Addr} {n c : Nat} {l : List Hs} (h : Sh.HRow w (.slice a n c) l) {t : Nat} (ht : t < l.length) : ∃ b off, a = some ⟨b, off, none⟩ ∧ ∀ wx, Below w.heap.size w wx → wx.rangeAt b (off + t * 32) (Sh.encH (l.getD t default)) := by
 obtain ⟨b, off, h1, h2, h3, h4⟩ := h.at (by omega)
 refine ⟨b, off, h1, fun wx hb => ?_⟩
 have h5 := Sh.rangeAt_elem (Sh.rangeAt_below h4 hb (Sh.rangeAt_lt h4 (by omega))) t ht
 rwa [show l.getD t default = l[t] by simp [List.getD_eq_getElem?_getD, ht]]
set_option maxRecDepth 8000 in
set_option maxHeartbeats 4000000 in
theorem rsame_node (A B : NodeV) (vp vo vq vr : Value) (w : World) (hA : NdAt w A vp vo) (hB : NdAt w B vq vr) : Calls Tryz.prog 65 #[.agg (ndA A.au A.ck vp vo), .agg (ndA B.au B.ck vq vr)] w fun e w' => e = .returned (.bool (sameN A B)) ∧ Below w.heap.size w w' := by
 obtain ⟨pa, pc, rfl⟩ := hA.ps.form
 obtain ⟨oa, oc, rfl⟩ := hA.ops.form
 obtain ⟨pb, pd, rfl⟩ := hB.ps.form
 obtain ⟨ob, od, rfl⟩ := hB.ops.form
 have HA := Keep.mk hA
 have HB := Keep.mk hB
 clear hA hB
 go_enter Tryz.func65, Tryz.ntmps65
 refine wp_seq_k fun K1 hK1 => rgn ?_
 refine WL.box (by kernel_rfl) 50 (.tmp 0) rfl _ rfl ?_
 have HX0 := Keep.mk (Blk.new w 50 (ndA A.au A.ck (.slice pa A.ps.length pc) (.slice oa A.ops.length oc)))
 have B0 := Keep.mk (below_new w (.cells (ndA A.au A.ck (.slice pa A.ps.length pc) (.slice oa A.ops.length oc)) 50))
 generalize w.alloc (.cells (ndA A.au A.ck (.slice pa A.ps.length pc) (.slice oa A.ops.length oc)) 50) = w1 at *
 have B0x : Keep (w.heap.size ≤ w1.heap.size) := ⟨B0.out.size⟩
 generalize hgg : w.heap.size = g at *
 simp only [Act.put, pqA, pqB, pqC]
 refine WL.box (by kernel_rfl) 50 (.tmp 1) rfl _ rfl ?_
 have HXa := Keep.mk (HX0.out.alloc (.cells (ndA B.au B.ck (.slice pb B.ps.length pd) (.slice ob B.ops.length od)) 50))
 have HXb := Keep.mk (Blk.new w1 50 (ndA B.au B.ck (.slice pb B.ps.length pd) (.slice ob B.ops.length od)))
 have B2 : Keep (Below g w (w1.alloc (.cells (ndA B.au B.ck (.slice pb B.ps.length pd) (.slice ob B.ops.length od)) 50))) := ⟨B0.out.trans ((below_new w1 _).mono B0x.out)⟩
 generalize w1.alloc (.cells (ndA B.au B.ck (.slice pb B.ps.length pd) (.slice ob B.ops.length od)) 50) = w2 at *
 have HA2 := Keep.mk (HA.out.below (by rw [hgg]; exact B2.out))
 have HB2 := Keep.mk (HB.out.below (by rw [hgg]; exact B2.out))
 have B2x : Keep (g ≤ w2.heap.size) := ⟨by have := B2.out.size; omega⟩
 generalize w1.heap.size = k at *
 have a0 := HXa.out.c 0 (nd_0 _ _ _ _)
 have a1 := HXa.out.c 1 (nd_1 _ _ _ _)
 have a2 := HXa.out.c 2 (nd_2 _ _ _ _)
 have a3 := HXa.out.c 3 (nd_3 _ _ _ _)
 have b0 := HXb.out.c 0 (nd_0 _ _ _ _)
 have b1 := HXb.out.c 1 (nd_1 _ _ _ _)
 have b2 := HXb.out.c 2 (nd_2 _ _ _ _)
 have b3 := HXb.out.c 3 (nd_3 _ _ _ _)
 simp only [Act.put, pqA, pqB, pqC]
 refine VbF ?_
 refine WL.nil (hK1 _ _ ?_)
 refine wp_seq_k fun K2 hK2 => ?_
 refine wp_seq_k fun K3 hK3 => rgn ?_
 refine VlS (.pointer (some ⟨g, 0, none⟩)) ?_
 refine VlS (.int .i64 A.au) ?_
 refine VlS (.pointer (some ⟨k, 0, none⟩)) ?_
 refine VlS (.int .i64 B.au) ?_
 by_cases h1_4 : A.au = B.au
 ·skip
  refine VbF ?_
  refine VbF ?_
  refine VlS (.pointer (some ⟨g, 1, none⟩)) ?_
  refine VlS (.int .i64 A.ck) ?_
  refine VlS (.pointer (some ⟨k, 1, none⟩)) ?_
  refine VlS (.int .i64 B.ck) ?_
  by_cases h1_10 : A.ck = B.ck
  ·skip
   refine VbF ?_
   refine VbF ?_
   refine VbF ?_
   refine VlS (.pointer (some ⟨g, 2, none⟩)) ?_
   refine VlS (.slice pa A.ps.length pc) ?_
   refine VlS (.int .i64 (A.ps.length : Int)) ?_
   refine VlS (.pointer (some ⟨k, 2, none⟩)) ?_
   refine VlS (.slice pb B.ps.length pd) ?_
   refine VlS (.int .i64 (B.ps.length : Int)) ?_
   by_cases h1_19 : A.ps.length = B.ps.length
   ·have h1_19i : (A.ps.length : Int) = (B.ps.length : Int) := by omega
    refine VbF ?_
    refine VbF ?_
    refine VbF ?_
    refine VlS (.pointer (some ⟨g, 3, none⟩)) ?_
    refine VlS (.slice oa A.ops.length oc) ?_
    refine VlS (.int .i64 (A.ops.length : Int)) ?_
    refine VlS (.pointer (some ⟨k, 3, none⟩)) ?_
    refine VlS (.slice ob B.ops.length od) ?_
    refine VlS (.int .i64 (B.ops.length : Int)) ?_
    by_cases h1_28 : A.ops.length = B.ops.length
    ·have h1_28i : (A.ops.length : Int) = (B.ops.length : Int) := by omega
     refine VbF ?_
     refine VbF ?_
     refine WL.nil (hK3 _ _ ?_)
     refine wp_cond_false rfl ?_
     refine wp_skip ?_
     refine hK2 _ _ ?_
     refine wp_seq_k fun K4 hK4 => ?_
     refine wp_seq_k fun K5 hK5 => rgn ?_
     refine VlS (.int .i64 0) ?_
     refine WL.nil (hK5 _ _ ?_)
     refine wp_block ?_
     refine wp_loop (fun ac wr => ∃ (t : Nat) (u4 u37 u38 u39 u40 u41 u42 u43 u44 u45 u46 u47 u48 u49 u50 u51 u52 u53 u54 : Value), ac = { tmps := #[.agg (ndA A.au A.ck (.slice pa A.ps.length pc) (.slice oa A.ops.length oc)), .agg (ndA B.au B.ck (.slice pb B.ps.length pd) (.slice ob B.ops.length od)), .pointer (some ⟨g, 0, none⟩), .pointer (some ⟨k, 0, none⟩), u4, .int .i64 (t : Int), undef, .pointer (some ⟨g, 0, none⟩), .int .i64 A.au, .pointer (some ⟨k, 0, none⟩), .int .i64 B.au, .bool false, .bool false, .pointer (some ⟨g, 1, none⟩), .int .i64 A.ck, .pointer (some ⟨k, 1, none⟩), .int .i64 B.ck, .bool false, .bool false, .bool false, .pointer (some ⟨g, 2, none⟩), .slice pa A.ps.length pc, .int .i64 (A.ps.length : Int), .pointer (some ⟨k, 2, none⟩), .slice pb B.ps.length pd, .int .i64 (B.ps.length : Int), .bool false, .bool false, .bool false, .pointer (some ⟨g, 3, none⟩), .slice oa A.ops.length oc, .int .i64 (A.ops.length : Int), .pointer (some ⟨k, 3, none⟩), .slice ob B.ops.length od, .int .i64 (B.ops.length : Int), .bool false, .bool false, u37, u38, u39, u40, u41, u42, u43, u44, u45, u46, u47, u48, u49, u50, u51, u52, u53, u54, undef, undef, undef, undef, undef, undef, undef, undef, undef, undef, undef, undef, undef, undef, undef, undef, undef, undef, undef], defers := [] } ∧ t ≤ A.ps.length ∧ (∀ i, i < t → A.ps.getD i default = B.ps.getD i default) ∧ Below w2.heap.size w2 wr) (fun a _ => A.ps.length - (intOf (a.tmps.getD 5 undef)).toNat) ⟨0, .bool false, undef, undef, undef, undef, undef, undef, undef, undef, undef, undef, undef, undef, undef, undef, undef, undef, undef, undef, rfl, by omega, (fun i hi => by omega), Below.refl _ _⟩ ?_
     rintro ac wr ⟨t, u4, u37, u38, u39, u40, u41, u42, u43, u44, u45, u46, u47, u48, u49, u50, u51, u52, u53, u54, rfl, ht, hE, hB⟩
     have a2 := (HXa.out.below hB HXa.out.lt).c 2 (nd_2 _ _ _ _)
     by_cases htl : t < A.ps.length
     ·have htl' : (t : Int) < (A.ps.length : Int) := by omega
      have hwr1 : IntKind.i64.wrap ((t : Int) + 1) = (t : Int) + 1 := by rw [IntKind.wrap_i64]; have := HA.out.lp; omega
      have htb : t < B.ps.length := by omega
      obtain ⟨ga, fa, rfl, hea⟩ := HRow.elem (HA2.out.below hB).ps htl
      obtain ⟨gb, fb, rfl, heb⟩ := HRow.elem (HB2.out.below hB).ps htb
      obtain ⟨x, hx⟩ : ∃ x, x = A.ps.getD t default := ⟨_, rfl⟩
      obtain ⟨y, hy⟩ : ∃ y, y = B.ps.getD t default := ⟨_, rfl⟩
      rw [← hx] at hea
      rw [← hy] at heb
      have htb' : (t : Int) < (B.ps.length : Int) := by omega
      have HS0 : Keep (∀ wx, Below wr.heap.size wr wx → wx.cell? ⟨g, 2, none⟩ = some (.slice (some ⟨ga, fa, none⟩) A.ps.length pc) ∧ wx.cell? ⟨k, 2, none⟩ = some (.slice (some ⟨gb, fb, none⟩) B.ps.length pd) ∧ wx.rangeAt ga (fa + t * 32) (Sh.encH x) ∧ wx.rangeAt gb (fb + t * 32) (Sh.encH y)) := ⟨fun wx hb => ⟨((HXa.out.below hB HXa.out.lt).below hb (HXa.out.below hB HXa.out.lt).lt).c 2 (nd_2 _ _ _ _), ((HXb.out.below hB HXb.out.lt).below hb (HXb.out.below hB HXb.out.lt).lt).c 2 (nd_2 _ _ _ _), hea wx hb, heb wx hb⟩⟩
      have Jx := Keep.mk hx
      have Jy := Keep.mk hy
      have JB := Keep.mk hB
      have JE := Keep.mk hE
      clear hea heb hx hy hB hE
      refine wp_seq_k fun K6 hK6 => ?_
      refine wp_seq_k fun K7 hK7 => rgn ?_
      refine VlS (.int .i64 (t : Int)) ?_
      refine VlS (.pointer (some ⟨g, 2, none⟩)) ?_
      refine VlS (.slice (some ⟨ga, fa, none⟩) A.ps.length pc) ?_
      refine VlS (.int .i64 (A.ps.length : Int)) ?_
      refine VbT ?_
      refine WL.nil (hK7 _ _ ?_)
      refine wp_cond_true rfl ?_
      refine wp_skip ?_
      refine hK6 _ _ ?_
      refine wp_seq_k fun K8 hK8 => ?_
      refine wp_block ?_
      refine wp_seq_k fun K9 hK9 => ?_
      have hD0 : Below wr.heap.size wr wr.drew := (Below.refl _ _).drew
      clear a2
      by_cases hxy : x = y
      ·have hnq := neqH_run x y true (decide_eq_true hxy)
       have Hxy := Keep.mk hxy
       clear hxy
       refine wp_region_held_drew (S := fun wx => wx.cell? ⟨g, 2, none⟩ = some (.slice (some ⟨ga, fa, none⟩) A.ps.length pc) ∧ wx.cell? ⟨k, 2, none⟩ = some (.slice (some ⟨gb, fb, none⟩) B.ps.length pd) ∧ wx.rangeAt ga (fa + t * 32) (Sh.encH x) ∧ wx.rangeAt gb (fb + t * 32) (Sh.encH y)) (by kernel_rfl) (HS0.out _ hD0) (fun hHeld => ?_)
       refine tkS (i := 0) (oi := ⟨some 44, Op.fieldAddr 50 (Operand.tmp 2) 2, 0, _, _, none⟩) (v := .pointer (some ⟨g, 2, none⟩)) rfl (Or.inl ⟨by rfl, fun w hS => by obtain ⟨hs1, hs2, hs3, hs4⟩ := hS; go_simp⟩) hHeld ?_
       refine tkS (i := 1) (oi := ⟨some 45, Op.load 24 (Operand.tmp 44), 24, _, _, none⟩) (v := .slice (some ⟨ga, fa, none⟩) A.ps.length pc) rfl (Or.inl ⟨by rfl, fun w hS => by obtain ⟨hs1, hs2, hs3, hs4⟩ := hS; go_simp⟩) hHeld ?_
       refine tkS (i := 2) (oi := ⟨some 46, Op.move (Operand.tmp 5), 3, _, _, none⟩) (v := .int .i64 (t : Int)) rfl (Or.inl ⟨by rfl, fun w hS => by obtain ⟨hs1, hs2, hs3, hs4⟩ := hS; go_simp⟩) hHeld ?_
       refine tkS (i := 3) (oi := ⟨some 47, Op.indexAddr 24 (Operand.tmp 45) (Operand.tmp 46), 0, _, _, none⟩) (v := .pointer (some ⟨ga, fa + t * 32, none⟩)) rfl (Or.inl ⟨by rfl, fun w hS => by obtain ⟨hs1, hs2, hs3, hs4⟩ := hS; go_simp⟩) hHeld ?_
       refine tkS (i := 4) (oi := ⟨some 48, Op.load 36 (Operand.tmp 47), 36, _, _, none⟩) (v := .agg (Sh.encH x).toArray) rfl (yieldsIf_load_mid (by rfl) 36 (Operand.tmp 47) rfl ga (fa + t * 32) rfl (Sh.encH x) _ (fun w hS => hS.2.2.1) Tryz.underlying36 rfl (Tryz.sizeHL x)) hHeld ?_
       refine tkS (i := 5) (oi := ⟨some 49, Op.fieldAddr 50 (Operand.tmp 3) 2, 0, _, _, none⟩) (v := .pointer (some ⟨k, 2, none⟩)) rfl (Or.inl ⟨by rfl, fun w hS => by obtain ⟨hs1, hs2, hs3, hs4⟩ := hS; go_simp⟩) hHeld ?_
       refine tkS (i := 6) (oi := ⟨some 50, Op.load 24 (Operand.tmp 49), 24, _, _, none⟩) (v := .slice (some ⟨gb, fb, none⟩) B.ps.length pd) rfl (Or.inl ⟨by rfl, fun w hS => by obtain ⟨hs1, hs2, hs3, hs4⟩ := hS; go_simp⟩) hHeld ?_
       refine tkS (i := 7) (oi := ⟨some 51, Op.move (Operand.tmp 5), 3, _, _, none⟩) (v := .int .i64 (t : Int)) rfl (Or.inl ⟨by rfl, fun w hS => by obtain ⟨hs1, hs2, hs3, hs4⟩ := hS; go_simp⟩) hHeld ?_
       refine tkS (i := 8) (oi := ⟨some 52, Op.indexAddr 24 (Operand.tmp 50) (Operand.tmp 51), 0, _, _, none⟩) (v := .pointer (some ⟨gb, fb + t * 32, none⟩)) rfl (Or.inl ⟨by rfl, fun w hS => by obtain ⟨hs1, hs2, hs3, hs4⟩ := hS; go_simp⟩) hHeld ?_
       refine tkS (i := 9) (oi := ⟨some 53, Op.load 36 (Operand.tmp 52), 36, _, _, none⟩) (v := .agg (Sh.encH y).toArray) rfl (yieldsIf_load_mid (by rfl) 36 (Operand.tmp 52) rfl gb (fb + t * 32) rfl (Sh.encH y) _ (fun w hS => hS.2.2.2) Tryz.underlying36 rfl (Tryz.sizeHL y)) hHeld ?_
       refine tkS (i := 10) (oi := ⟨some 54, Op.binOp BinOp.neq 36 (Operand.tmp 48) (Operand.tmp 53) 36, 4, _, _, none⟩) (v := .bool false) rfl (Or.inl ⟨by rfl, fun w hS => by have hnq' := hnq w; go_simp⟩) hHeld ?_
       refine wpAnyH_done (by kernel_rfl) ?_ _
       refine hK9 _ _ ?_
       refine wp_cond_false rfl ?_
       refine wp_skip ?_
       refine hK8 _ _ ?_
       refine rgn ?_
       refine VlS (.int .i64 (t : Int)) ?_
       refine VlS (.int .i64 ((t : Int) + 1)) ?_
       refine VlS (.int .i64 ((t : Int) + 1)) ?_
       refine WL.nil ?_
       refine ⟨⟨t + 1, u4, .int .i64 (t : Int), .pointer (some ⟨g, 2, none⟩), .slice (some ⟨ga, fa, none⟩) A.ps.length pc, .int .i64 (A.ps.length : Int), .bool true, .int .i64 (t : Int), .int .i64 ((t : Int) + 1), .pointer (some ⟨g, 2, none⟩), .slice (some ⟨ga, fa, none⟩) A.ps.length pc, .int .i64 (t : Int), .pointer (some ⟨ga, fa + t * 32, none⟩), .agg (Sh.encH x).toArray, .pointer (some ⟨k, 2, none⟩), .slice (some ⟨gb, fb, none⟩) B.ps.length pd, .int .i64 (t : Int), .pointer (some ⟨gb, fb + t * 32, none⟩), .agg (Sh.encH y).toArray, .bool false, rfl, by omega, fun i hi => ?_, JB.out.trans (hD0.mono JB.out.size)⟩, ?_⟩
       ·by_cases hit : i < t
        ·exact JE.out i hit
        ·rw [show i = t by omega, ← Jx.out, ← Jy.out]; exact Hxy.out
       ·simp only [intOf]; show A.ps.length - ((t : Int) + 1).toNat < A.ps.length - ((t : Int)).toNat; omega
      ·have hnq := neqH_run x y false (decide_eq_false hxy)
       have Hxy := Keep.mk hxy
       clear hxy
       refine wp_region_held_drew (S := fun wx => wx.cell? ⟨g, 2, none⟩ = some (.slice (some ⟨ga, fa, none⟩) A.ps.length pc) ∧ wx.cell? ⟨k, 2, none⟩ = some (.slice (some ⟨gb, fb, none⟩) B.ps.length pd) ∧ wx.rangeAt ga (fa + t * 32) (Sh.encH x) ∧ wx.rangeAt gb (fb + t * 32) (Sh.encH y)) (by kernel_rfl) (HS0.out _ hD0) (fun hHeld => ?_)
       refine tkS (i := 0) (oi := ⟨some 44, Op.fieldAddr 50 (Operand.tmp 2) 2, 0, _, _, none⟩) (v := .pointer (some ⟨g, 2, none⟩)) rfl (Or.inl ⟨by rfl, fun w hS => by obtain ⟨hs1, hs2, hs3, hs4⟩ := hS; go_simp⟩) hHeld ?_
       refine tkS (i := 1) (oi := ⟨some 45, Op.load 24 (Operand.tmp 44), 24, _, _, none⟩) (v := .slice (some ⟨ga, fa, none⟩) A.ps.length pc) rfl (Or.inl ⟨by rfl, fun w hS => by obtain ⟨hs1, hs2, hs3, hs4⟩ := hS; go_simp⟩) hHeld ?_
       refine tkS (i := 2) (oi := ⟨some 46, Op.move (Operand.tmp 5), 3, _, _, none⟩) (v := .int .i64 (t : Int)) rfl (Or.inl ⟨by rfl, fun w hS => by obtain ⟨hs1, hs2, hs3, hs4⟩ := hS; go_simp⟩) hHeld ?_
       refine tkS (i := 3) (oi := ⟨some 47, Op.indexAddr 24 (Operand.tmp 45) (Operand.tmp 46), 0, _, _, none⟩) (v := .pointer (some ⟨ga, fa + t * 32, none⟩)) rfl (Or.inl ⟨by rfl, fun w hS => by obtain ⟨hs1, hs2, hs3, hs4⟩ := hS; go_simp⟩) hHeld ?_
       refine tkS (i := 4) (oi := ⟨some 48, Op.load 36 (Operand.tmp 47), 36, _, _, none⟩) (v := .agg (Sh.encH x).toArray) rfl (yieldsIf_load_mid (by rfl) 36 (Operand.tmp 47) rfl ga (fa + t * 32) rfl (Sh.encH x) _ (fun w hS => hS.2.2.1) Tryz.underlying36 rfl (Tryz.sizeHL x)) hHeld ?_
       refine tkS (i := 5) (oi := ⟨some 49, Op.fieldAddr 50 (Operand.tmp 3) 2, 0, _, _, none⟩) (v := .pointer (some ⟨k, 2, none⟩)) rfl (Or.inl ⟨by rfl, fun w hS => by obtain ⟨hs1, hs2, hs3, hs4⟩ := hS; go_simp⟩) hHeld ?_
       refine tkS (i := 6) (oi := ⟨some 50, Op.load 24 (Operand.tmp 49), 24, _, _, none⟩) (v := .slice (some ⟨gb, fb, none⟩) B.ps.length pd) rfl (Or.inl ⟨by rfl, fun w hS => by obtain ⟨hs1, hs2, hs3, hs4⟩ := hS; go_simp⟩) hHeld ?_
       refine tkS (i := 7) (oi := ⟨some 51, Op.move (Operand.tmp 5), 3, _, _, none⟩) (v := .int .i64 (t : Int)) rfl (Or.inl ⟨by rfl, fun w hS => by obtain ⟨hs1, hs2, hs3, hs4⟩ := hS; go_simp⟩) hHeld ?_
       refine tkS (i := 8) (oi := ⟨some 52, Op.indexAddr 24 (Operand.tmp 50) (Operand.tmp 51), 0, _, _, none⟩) (v := .pointer (some ⟨gb, fb + t * 32, none⟩)) rfl (Or.inl ⟨by rfl, fun w hS => by obtain ⟨hs1, hs2, hs3, hs4⟩ := hS; go_simp⟩) hHeld ?_
       refine tkS (i := 9) (oi := ⟨some 53, Op.load 36 (Operand.tmp 52), 36, _, _, none⟩) (v := .agg (Sh.encH y).toArray) rfl (yieldsIf_load_mid (by rfl) 36 (Operand.tmp 52) rfl gb (fb + t * 32) rfl (Sh.encH y) _ (fun w hS => hS.2.2.2) Tryz.underlying36 rfl (Tryz.sizeHL y)) hHeld ?_
       refine tkS (i := 10) (oi := ⟨some 54, Op.binOp BinOp.neq 36 (Operand.tmp 48) (Operand.tmp 53) 36, 4, _, _, none⟩) (v := .bool true) rfl (Or.inl ⟨by rfl, fun w hS => by have hnq' := hnq w; go_simp⟩) hHeld ?_
       refine wpAnyH_done (by kernel_rfl) ?_ _
       refine hK9 _ _ ?_
       refine wp_cond_true rfl ?_
       refine wp_seq_k fun K10 hK10 => rgn ?_
       refine VbF ?_
       refine WL.nil (hK10 _ _ ?_)
       refine wp_ret ?_
       go_ret
       have hno : sameN A B = false := by
        have : A.ps ≠ B.ps := fun e => Hxy.out (by rw [Jx.out, Jy.out, e])
        simp [sameN, this]
       exact ⟨by rw [hno]; rfl, B2.out.trans ((JB.out.mono B2x.out).trans ((Below.refl _ _).drew.mono (Nat.le_trans B2x.out JB.out.size)))⟩
     ·have htl' : ¬ (t : Int) < (A.ps.length : Int) := by omega
      have hle2 : B.ps.length ≤ t := by omega
      have hpe : Keep (A.ps = B.ps) := ⟨ps_eq h1_19 (fun i hi => hE i (by omega))⟩
      have JB := Keep.mk hB
      clear hB hE
      refine wp_seq_k fun K11 hK11 => ?_
      refine wp_seq_k fun K12 hK12 => rgn ?_
      refine VlS (.int .i64 (t : Int)) ?_
      refine VlS (.pointer (some ⟨g, 2, none⟩)) ?_
      refine VlS (.slice pa A.ps.length pc) ?_
      refine VlS (.int .i64 (A.ps.length : Int)) ?_
      refine VbF ?_
      refine WL.nil (hK12 _ _ ?_)
      refine wp_cond_false rfl ?_
      refine wp_exit ?_
      refine hK4 _ _ ?_
      refine wp_seq_k fun K13 hK13 => ?_
      refine wp_seq_k fun K14 hK14 => rgn ?_
      refine VlS (.int .i64 0) ?_
      refine WL.nil (hK14 _ _ ?_)
      refine wp_block ?_
      refine wp_loop (fun ac wq => ∃ (u : Nat) (y4 y55 y56 y57 y58 y59 y60 y61 y62 y63 y64 y65 y66 y67 y68 y69 y70 y71 y72 y73 : Value), ac = { tmps := #[.agg (ndA A.au A.ck (.slice pa A.ps.length pc) (.slice oa A.ops.length oc)), .agg (ndA B.au B.ck (.slice pb B.ps.length pd) (.slice ob B.ops.length od)), .pointer (some ⟨g, 0, none⟩), .pointer (some ⟨k, 0, none⟩), y4, .int .i64 (t : Int), .int .i64 (u : Int), .pointer (some ⟨g, 0, none⟩), .int .i64 A.au, .pointer (some ⟨k, 0, none⟩), .int .i64 B.au, .bool false, .bool false, .pointer (some ⟨g, 1, none⟩), .int .i64 A.ck, .pointer (some ⟨k, 1, none⟩), .int .i64 B.ck, .bool false, .bool false, .bool false, .pointer (some ⟨g, 2, none⟩), .slice pa A.ps.length pc, .int .i64 (A.ps.length : Int), .pointer (some ⟨k, 2, none⟩), .slice pb B.ps.length pd, .int .i64 (B.ps.length : Int), .bool false, .bool false, .bool false, .pointer (some ⟨g, 3, none⟩), .slice oa A.ops.length oc, .int .i64 (A.ops.length : Int), .pointer (some ⟨k, 3, none⟩), .slice ob B.ops.length od, .int .i64 (B.ops.length : Int), .bool false, .bool false, .int .i64 (t : Int), .pointer (some ⟨g, 2, none⟩), .slice pa A.ps.length pc, .int .i64 (A.ps.length : Int), .bool false, u42, u43, u44, u45, u46, u47, u48, u49, u50, u51, u52, u53, u54, y55, y56, y57, y58, y59, y60, y61, y62, y63, y64, y65, y66, y67, y68, y69, y70, y71, y72, y73], defers := [] } ∧ u ≤ A.ops.length ∧ (∀ i, i < u → sm (A.ops.getD i zeroOp) (B.ops.getD i zeroOp) = true) ∧ Below w2.heap.size w2 wq) (fun a _ => A.ops.length - (intOf (a.tmps.getD 6 undef)).toNat) ⟨0, u4, undef, undef, undef, undef, undef, undef, undef, undef, undef, undef, undef, undef, undef, undef, undef, undef, undef, undef, undef, rfl, by omega, (fun i hi => by omega), JB.out⟩ ?_
      rintro ac wq ⟨u, y4, y55, y56, y57, y58, y59, y60, y61, y62, y63, y64, y65, y66, y67, y68, y69, y70, y71, y72, y73, rfl, hu, hF, hC⟩
      have a3 := (HXa.out.below hC HXa.out.lt).c 3 (nd_3 _ _ _ _)
      by_cases hul : u < A.ops.length
      ·have hul' : (u : Int) < (A.ops.length : Int) := by omega
       have hwr2 : IntKind.i64.wrap ((u : Int) + 1) = (u : Int) + 1 := by rw [IntKind.wrap_i64]; have := HA.out.lo; omega
       have hub : u < B.ops.length := by omega
       obtain ⟨ga, fa, rfl, hea⟩ := (HA2.out.below hC).ops.at hul
       obtain ⟨gb, fb, rfl, heb⟩ := (HB2.out.below hC).ops.at hub
       obtain ⟨x, hx⟩ : ∃ x, x = A.ops.getD u zeroOp := ⟨_, rfl⟩
       obtain ⟨y, hy⟩ : ∃ y, y = B.ops.getD u zeroOp := ⟨_, rfl⟩
       rw [← hx] at hea
       rw [← hy] at heb
       have hub' : (u : Int) < (B.ops.length : Int) := by omega
       have HS0 : Keep (∀ wx, Below wq.heap.size wq wx → wx.cell? ⟨g, 3, none⟩ = some (.slice (some ⟨ga, fa, none⟩) A.ops.length oc) ∧ wx.cell? ⟨k, 3, none⟩ = some (.slice (some ⟨gb, fb, none⟩) B.ops.length od) ∧ wx.rangeAt ga (fa + u * 37) (opL x) ∧ wx.rangeAt gb (fb + u * 37) (opL y)) := ⟨fun wx hb => ⟨((HXa.out.below hC HXa.out.lt).below hb (HXa.out.below hC HXa.out.lt).lt).c 3 (nd_3 _ _ _ _), ((HXb.out.below hC HXb.out.lt).below hb (HXb.out.below hC HXb.out.lt).lt).c 3 (nd_3 _ _ _ _), range_grown hea (Grown.below (S := fun _ => False) hb) (fun h => h), range_grown heb (Grown.below (S := fun _ => False) hb) (fun h => h)⟩⟩
       have Jx := Keep.mk hx
       have Jy := Keep.mk hy
       have JC := Keep.mk hC
       have JF := Keep.mk hF
       clear hea heb hx hy hC hF
       refine wp_seq_k fun K15 hK15 => ?_
       refine wp_seq_k fun K16 hK16 => rgn ?_
       refine VlS (.int .i64 (u : Int)) ?_
       refine VlS (.pointer (some ⟨g, 3, none⟩)) ?_
       refine VlS (.slice (some ⟨ga, fa, none⟩) A.ops.length oc) ?_
       refine VlS (.int .i64 (A.ops.length : Int)) ?_
       refine VbT ?_
       refine WL.nil (hK16 _ _ ?_)
       refine wp_cond_true rfl ?_
       refine wp_skip ?_
       refine hK15 _ _ ?_
       refine wp_seq_k fun K17 hK17 => ?_
       refine wp_block ?_
       refine wp_seq_k fun K18 hK18 => ?_
       have hD0 : Below wq.heap.size wq wq.drew := (Below.refl _ _).drew
       clear a3
       rcases Bool.eq_false_or_eq_true (sm x y) with hxy | hxy
       ·skip
        refine wp_region_held_drew (S := fun wx => wx.cell? ⟨g, 3, none⟩ = some (.slice (some ⟨ga, fa, none⟩) A.ops.length oc) ∧ wx.cell? ⟨k, 3, none⟩ = some (.slice (some ⟨gb, fb, none⟩) B.ops.length od) ∧ wx.rangeAt ga (fa + u * 37) (opL x) ∧ wx.rangeAt gb (fb + u * 37) (opL y)) (by kernel_rfl) (HS0.out _ hD0) (fun hHeld => ?_)
        refine tkS (i := 0) (oi := ⟨some 62, Op.fieldAddr 50 (Operand.tmp 2) 3, 0, _, _, none⟩) (v := .pointer (some ⟨g, 3, none⟩)) rfl (Or.inl ⟨by rfl, fun w hS => by obtain ⟨hs1, hs2, hs3, hs4⟩ := hS; go_simp⟩) hHeld ?_
        refine tkS (i := 1) (oi := ⟨some 63, Op.load 48 (Operand.tmp 62), 48, _, _, none⟩) (v := .slice (some ⟨ga, fa, none⟩) A.ops.length oc) rfl (Or.inl ⟨by rfl, fun w hS => by obtain ⟨hs1, hs2, hs3, hs4⟩ := hS; go_simp⟩) hHeld ?_
        refine tkS (i := 2) (oi := ⟨some 64, Op.move (Operand.tmp 6), 3, _, _, none⟩) (v := .int .i64 (u : Int)) rfl (Or.inl ⟨by rfl, fun w hS => by obtain ⟨hs1, hs2, hs3, hs4⟩ := hS; go_simp⟩) hHeld ?_
        refine tkS (i := 3) (oi := ⟨some 65, Op.indexAddr 48 (Operand.tmp 63) (Operand.tmp 64), 0, _, _, none⟩) (v := .pointer (some ⟨ga, fa + u * 37, none⟩)) rfl (Or.inl ⟨by rfl, fun w hS => by obtain ⟨hs1, hs2, hs3, hs4⟩ := hS; go_simp⟩) hHeld ?_
        refine tkS (i := 4) (oi := ⟨some 66, Op.load 119 (Operand.tmp 65), 119, _, _, none⟩) (v := .agg (opL x).toArray) rfl (yieldsIf_load_mid (by rfl) 119 (Operand.tmp 65) rfl ga (fa + u * 37) rfl (opL x) _ (fun w hS => hS.2.2.1) Tryz.underlying119 rfl (Tryz.size119L x)) hHeld ?_
        refine tkS (i := 5) (oi := ⟨some 67, Op.fieldAddr 50 (Operand.tmp 3) 3, 0, _, _, none⟩) (v := .pointer (some ⟨k, 3, none⟩)) rfl (Or.inl ⟨by rfl, fun w hS => by obtain ⟨hs1, hs2, hs3, hs4⟩ := hS; go_simp⟩) hHeld ?_
        refine tkS (i := 6) (oi := ⟨some 68, Op.load 48 (Operand.tmp 67), 48, _, _, none⟩) (v := .slice (some ⟨gb, fb, none⟩) B.ops.length od) rfl (Or.inl ⟨by rfl, fun w hS => by obtain ⟨hs1, hs2, hs3, hs4⟩ := hS; go_simp⟩) hHeld ?_
        refine tkS (i := 7) (oi := ⟨some 69, Op.move (Operand.tmp 6), 3, _, _, none⟩) (v := .int .i64 (u : Int)) rfl (Or.inl ⟨by rfl, fun w hS => by obtain ⟨hs1, hs2, hs3, hs4⟩ := hS; go_simp⟩) hHeld ?_
        refine tkS (i := 8) (oi := ⟨some 70, Op.indexAddr 48 (Operand.tmp 68) (Operand.tmp 69), 0, _, _, none⟩) (v := .pointer (some ⟨gb, fb + u * 37, none⟩)) rfl (Or.inl ⟨by rfl, fun w hS => by obtain ⟨hs1, hs2, hs3, hs4⟩ := hS; go_simp⟩) hHeld ?_
        refine tkS (i := 9) (oi := ⟨some 71, Op.load 119 (Operand.tmp 70), 119, _, _, none⟩) (v := .agg (opL y).toArray) rfl (yieldsIf_load_mid (by rfl) 119 (Operand.tmp 70) rfl gb (fb + u * 37) rfl (opL y) _ (fun w hS => hS.2.2.2) Tryz.underlying119 rfl (Tryz.size119L y)) hHeld ?_
        refine wpAnyH_ready (rs := [10]) (by kernel_rfl) (by simp) ?_
        refine AllReadyH.cons (o := ⟨some 72, Op.call { callee := Callee.value (Operand.func 83), args := #[Operand.tmp 66, Operand.tmp 71], argTypes := #[119, 119] }, 4, _, _, none⟩) rfl (fun K hK => ?_) AllReadyH.nil
        rw [if_pos (by rfl)]
        refine wp_callF 83 _ _ rfl Tryz.in83 #[.agg (opA x), .agg (opA y)] (by simp [Act.eval, rng_load]) (fun vz wz => vz = .bool true ∧ Below wq.heap.size wq wz) ?_ ?_
        ·refine (rsame_any x y wq.drew).mono ?_
         rintro e wz ⟨rfl, h⟩
         rw [hxy]
         exact ⟨_, rfl, rfl, hD0.trans (h.mono hD0.size)⟩
        rintro vz w7 ⟨rfl, h7⟩
        have HB7 := Keep.mk h7
        clear h7
        refine hK.out _ _ (HS0.out _ HB7.out) fun hHeld2 => ?_
        clear hK
        simp only [Act.put, pqA, pqB, pqC]
        refine tkS (i := 11) (oi := ⟨some 73, Op.unOp UnOp.not 4 (Operand.tmp 72), 4, _, _, none⟩) (v := .bool false) rfl (Or.inl ⟨by rfl, fun w hS => by obtain ⟨hs1, hs2, hs3, hs4⟩ := hS; go_simp⟩) hHeld2 ?_
        refine wpAnyH_done (by kernel_rfl) ?_ _
        refine hK18 _ _ ?_
        refine wp_cond_false rfl ?_
        refine wp_skip ?_
        refine hK17 _ _ ?_
        refine rgn ?_
        refine VlS (.int .i64 (u : Int)) ?_
        refine VlS (.int .i64 ((u : Int) + 1)) ?_
        refine VlS (.int .i64 ((u : Int) + 1)) ?_
        refine WL.nil ?_
        refine ⟨⟨u + 1, y4, .int .i64 (u : Int), .pointer (some ⟨g, 3, none⟩), .slice (some ⟨ga, fa, none⟩) A.ops.length oc, .int .i64 (A.ops.length : Int), .bool true, .int .i64 (u : Int), .int .i64 ((u : Int) + 1), .pointer (some ⟨g, 3, none⟩), .slice (some ⟨ga, fa, none⟩) A.ops.length oc, .int .i64 (u : Int), .pointer (some ⟨ga, fa + u * 37, none⟩), .agg (opL x).toArray, .pointer (some ⟨k, 3, none⟩), .slice (some ⟨gb, fb, none⟩) B.ops.length od, .int .i64 (u : Int), .pointer (some ⟨gb, fb + u * 37, none⟩), .agg (opL y).toArray, .bool true, .bool false, rfl, by omega, fun i hi => ?_, JC.out.trans (HB7.out.mono JC.out.size)⟩, ?_⟩
        ·by_cases hit : i < u
         ·exact JF.out i hit
         ·rw [show i = u by omega, ← Jx.out, ← Jy.out]; exact hxy
        ·simp only [intOf]; show A.ops.length - ((u : Int) + 1).toNat < A.ops.length - ((u : Int)).toNat; omega
       ·skip
        refine wp_region_held_drew (S := fun wx => wx.cell? ⟨g, 3, none⟩ = some (.slice (some ⟨ga, fa, none⟩) A.ops.length oc) ∧ wx.cell? ⟨k, 3, none⟩ = some (.slice (some ⟨gb, fb, none⟩) B.ops.length od) ∧ wx.rangeAt ga (fa + u * 37) (opL x) ∧ wx.rangeAt gb (fb + u * 37) (opL y)) (by kernel_rfl) (HS0.out _ hD0) (fun hHeld => ?_)
        refine tkS (i := 0) (oi := ⟨some 62, Op.fieldAddr 50 (Operand.tmp 2) 3, 0, _, _, none⟩) (v := .pointer (some ⟨g, 3, none⟩)) rfl (Or.inl ⟨by rfl, fun w hS => by obtain ⟨hs1, hs2, hs3, hs4⟩ := hS; go_simp⟩) hHeld ?_
        refine tkS (i := 1) (oi := ⟨some 63, Op.load 48 (Operand.tmp 62), 48, _, _, none⟩) (v := .slice (some ⟨ga, fa, none⟩) A.ops.length oc) rfl (Or.inl ⟨by rfl, fun w hS => by obtain ⟨hs1, hs2, hs3, hs4⟩ := hS; go_simp⟩) hHeld ?_
        refine tkS (i := 2) (oi := ⟨some 64, Op.move (Operand.tmp 6), 3, _, _, none⟩) (v := .int .i64 (u : Int)) rfl (Or.inl ⟨by rfl, fun w hS => by obtain ⟨hs1, hs2, hs3, hs4⟩ := hS; go_simp⟩) hHeld ?_
        refine tkS (i := 3) (oi := ⟨some 65, Op.indexAddr 48 (Operand.tmp 63) (Operand.tmp 64), 0, _, _, none⟩) (v := .pointer (some ⟨ga, fa + u * 37, none⟩)) rfl (Or.inl ⟨by rfl, fun w hS => by obtain ⟨hs1, hs2, hs3, hs4⟩ := hS; go_simp⟩) hHeld ?_
        refine tkS (i := 4) (oi := ⟨some 66, Op.load 119 (Operand.tmp 65), 119, _, _, none⟩) (v := .agg (opL x).toArray) rfl (yieldsIf_load_mid (by rfl) 119 (Operand.tmp 65) rfl ga (fa + u * 37) rfl (opL x) _ (fun w hS => hS.2.2.1) Tryz.underlying119 rfl (Tryz.size119L x)) hHeld ?_
        refine tkS (i := 5) (oi := ⟨some 67, Op.fieldAddr 50 (Operand.tmp 3) 3, 0, _, _, none⟩) (v := .pointer (some ⟨k, 3, none⟩)) rfl (Or.inl ⟨by rfl, fun w hS => by obtain ⟨hs1, hs2, hs3, hs4⟩ := hS; go_simp⟩) hHeld ?_
        refine tkS (i := 6) (oi := ⟨some 68, Op.load 48 (Operand.tmp 67), 48, _, _, none⟩) (v := .slice (some ⟨gb, fb, none⟩) B.ops.length od) rfl (Or.inl ⟨by rfl, fun w hS => by obtain ⟨hs1, hs2, hs3, hs4⟩ := hS; go_simp⟩) hHeld ?_
        refine tkS (i := 7) (oi := ⟨some 69, Op.move (Operand.tmp 6), 3, _, _, none⟩) (v := .int .i64 (u : Int)) rfl (Or.inl ⟨by rfl, fun w hS => by obtain ⟨hs1, hs2, hs3, hs4⟩ := hS; go_simp⟩) hHeld ?_
        refine tkS (i := 8) (oi := ⟨some 70, Op.indexAddr 48 (Operand.tmp 68) (Operand.tmp 69), 0, _, _, none⟩) (v := .pointer (some ⟨gb, fb + u * 37, none⟩)) rfl (Or.inl ⟨by rfl, fun w hS => by obtain ⟨hs1, hs2, hs3, hs4⟩ := hS; go_simp⟩) hHeld ?_
        refine tkS (i := 9) (oi := ⟨some 71, Op.load 119 (Operand.tmp 70), 119, _, _, none⟩) (v := .agg (opL y).toArray) rfl (yieldsIf_load_mid (by rfl) 119 (Operand.tmp 70) rfl gb (fb + u * 37) rfl (opL y) _ (fun w hS => hS.2.2.2) Tryz.underlying119 rfl (Tryz.size119L y)) hHeld ?_
        refine wpAnyH_ready (rs := [10]) (by kernel_rfl) (by simp) ?_
        refine AllReadyH.cons (o := ⟨some 72, Op.call { callee := Callee.value (Operand.func 83), args := #[Operand.tmp 66, Operand.tmp 71], argTypes := #[119, 119] }, 4, _, _, none⟩) rfl (fun K hK => ?_) AllReadyH.nil
        rw [if_pos (by rfl)]
        refine wp_callF 83 _ _ rfl Tryz.in83 #[.agg (opA x), .agg (opA y)] (by simp [Act.eval, rng_load]) (fun vz wz => vz = .bool false ∧ Below wq.heap.size wq wz) ?_ ?_
        ·refine (rsame_any x y wq.drew).mono ?_
         rintro e wz ⟨rfl, h⟩
         rw [hxy]
         exact ⟨_, rfl, rfl, hD0.trans (h.mono hD0.size)⟩
        rintro vz w7 ⟨rfl, h7⟩
        have HB7 := Keep.mk h7
        clear h7
        refine hK.out _ _ (HS0.out _ HB7.out) fun hHeld2 => ?_
        clear hK
        simp only [Act.put, pqA, pqB, pqC]
        refine tkS (i := 11) (oi := ⟨some 73, Op.unOp UnOp.not 4 (Operand.tmp 72), 4, _, _, none⟩) (v := .bool true) rfl (Or.inl ⟨by rfl, fun w hS => by obtain ⟨hs1, hs2, hs3, hs4⟩ := hS; go_simp⟩) hHeld2 ?_
        refine wpAnyH_done (by kernel_rfl) ?_ _
        refine hK18 _ _ ?_
        refine wp_cond_true rfl ?_
        refine wp_seq_k fun K19 hK19 => rgn ?_
        refine VbF ?_
        refine WL.nil (hK19 _ _ ?_)
        refine wp_ret ?_
        go_ret
        have hno : sameN A B = false := by
         have : smL A.ops B.ops = false := by
          rw [Bool.eq_false_iff]; intro h
          simp only [smL, Bool.and_eq_true, List.all_eq_true, List.mem_range] at h
          have := h.2 u hul
          rw [← Jx.out, ← Jy.out, hxy] at this; cases this
         simp [sameN, this]
        exact ⟨by rw [hno]; rfl, B2.out.trans ((JC.out.mono B2x.out).trans (HB7.out.mono (Nat.le_trans B2x.out JC.out.size)))⟩
      ·have hul' : ¬ (u : Int) < (A.ops.length : Int) := by omega
       have hle3 : B.ops.length ≤ u := by omega
       refine wp_seq_k fun K20 hK20 => ?_
       refine wp_seq_k fun K21 hK21 => rgn ?_
       refine VlS (.int .i64 (u : Int)) ?_
       refine VlS (.pointer (some ⟨g, 3, none⟩)) ?_
       refine VlS (.slice oa A.ops.length oc) ?_
       refine VlS (.int .i64 (A.ops.length : Int)) ?_
       refine VbF ?_
       refine WL.nil (hK21 _ _ ?_)
       refine wp_cond_false rfl ?_
       refine wp_exit ?_
       refine hK13 _ _ ?_
       refine wp_seq_k fun K22 hK22 => rgn ?_
       refine VbT ?_
       refine WL.nil (hK22 _ _ ?_)
       refine wp_ret ?_
       go_ret
       have hyes : sameN A B = true := by
        have : smL A.ops B.ops = true := by
         simp only [smL, Bool.and_eq_true, List.all_eq_true, List.mem_range, decide_eq_true_eq]
         exact ⟨h1_28, fun i hi => hF i (by omega)⟩
        simp [sameN, this, h1_4, h1_10, hpe.out]
       exact ⟨by rw [hyes]; rfl, B2.out.trans (hC.mono B2x.out)⟩
    ·have h1_28i : ¬ (A.ops.length : Int) = (B.ops.length : Int) := by omega
     refine VbT ?_
     refine VbT ?_
     refine WL.nil (hK3 _ _ ?_)
     refine wp_cond_true rfl ?_
     refine wp_seq_k fun K23 hK23 => rgn ?_
     refine VbF ?_
     refine WL.nil (hK23 _ _ ?_)
     refine wp_ret ?_
     go_ret
     have hno : sameN A B = false := by simp [sameN, smL, h1_28]
     exact ⟨by rw [hno]; rfl, B2.out⟩
   ·have h1_19i : ¬ (A.ps.length : Int) = (B.ps.length : Int) := by omega
    refine VbT ?_
    refine VbT ?_
    refine VbT ?_
    refine SkS ?_
    refine SkS ?_
    refine SkS ?_
    refine SkS ?_
    refine SkS ?_
    refine SkS ?_
    refine SkS ?_
    refine VbT ?_
    refine WL.nil (hK3 _ _ ?_)
    refine wp_cond_true rfl ?_
    refine wp_seq_k fun K24 hK24 => rgn ?_
    refine VbF ?_
    refine WL.nil (hK24 _ _ ?_)
    refine wp_ret ?_
    go_ret
    have hno : sameN A B = false := by
     have : A.ps ≠ B.ps := fun e => h1_19 (by rw [e])
     simp [sameN, this]
    exact ⟨by rw [hno]; rfl, B2.out⟩
  ·skip
   refine VbT ?_
   refine VbT ?_
   refine VbT ?_
   refine SkS ?_
   refine SkS ?_
   refine SkS ?_
   refine SkS ?_
   refine SkS ?_
   refine SkS ?_
   refine SkS ?_
   refine VbT ?_
   refine VbT ?_
   refine SkS ?_
   refine SkS ?_
   refine SkS ?_
   refine SkS ?_
   refine SkS ?_
   refine SkS ?_
   refine SkS ?_
   refine VbT ?_
   refine WL.nil (hK3 _ _ ?_)
   refine wp_cond_true rfl ?_
   refine wp_seq_k fun K25 hK25 => rgn ?_
   refine VbF ?_
   refine WL.nil (hK25 _ _ ?_)
   refine wp_ret ?_
   go_ret
   have hno : sameN A B = false := by simp [sameN, h1_10]
   exact ⟨by rw [hno]; rfl, B2.out⟩
 ·skip
  refine VbT ?_
  refine VbT ?_
  refine SkS ?_
  refine SkS ?_
  refine SkS ?_
  refine SkS ?_
  refine SkS ?_
  refine VbT ?_
  refine VbT ?_
  refine SkS ?_
  refine SkS ?_
  refine SkS ?_
  refine SkS ?_
  refine SkS ?_
  refine SkS ?_
  refine SkS ?_
  refine VbT ?_
  refine VbT ?_
  refine SkS ?_
  refine SkS ?_
  refine SkS ?_
  refine SkS ?_
  refine SkS ?_
  refine SkS ?_
  refine SkS ?_
  refine VbT ?_
  refine WL.nil (hK3 _ _ ?_)
  refine wp_cond_true rfl ?_
  refine wp_seq_k fun K26 hK26 => rgn ?_
  refine VbF ?_
  refine WL.nil (hK26 _ _ ?_)
  refine wp_ret ?_
  go_ret
  have hno : sameN A B = false := by simp [sameN, h1_4]
  exact ⟨by rw [hno]; rfl, B2.out⟩
end Go.Proofs.YthlohkgdmfkpeaaGreat.Nd
set_option linter.unusedSimpArgs false
set_option linter.unusedVariables false
namespace Go.Proofs.YthlohkgdmfkpeaaGreat.Nd
open Go.RowKit
theorem hl_hof (c : List Int) (h : c.length = 32) : hl 32 (hof c) = c := by
 apply List.ext_getElem (by rw [hl_len, h])
 intro i h1 h2
 have := hl_get 32 (hof c) i (by rw [hl_len] at h1; exact h1)
 rw [List.getD_eq_getElem?_getD, List.getElem?_eq_getElem h1, Option.getD_some] at this
 rw [this]
 simp [hof, List.getD, h2]
theorem hl_of (f : Nat → Int) : hl 32 (hof (hl 32 f)) = hl 32 f := hl_hof _ (hl_len _ _)
end Go.Proofs.YthlohkgdmfkpeaaGreat.Nd
namespace Go.Proofs.YthlohkgdmfkpeaaGreat.Nd
open Go.ChangeShapes Go.WideShapes Go.ChangeAt Go.RowKit Go.Deep
theorem Tryz.cellsOf119 : Tryz.prog.cellsOf 119 = 37 := by kernel_rfl
theorem Tryz.cellsOf117 : Tryz.prog.cellsOf 117 = 33 := by kernel_rfl
theorem Tryz.cellsOf36 : Tryz.prog.cellsOf 36 = 32 := by kernel_rfl
theorem Tryz.cellsOf3 : Tryz.prog.cellsOf 3 = 1 := by kernel_rfl
theorem Tryz.cellsOf2 : Tryz.prog.cellsOf 2 = 1 := by kernel_rfl
theorem Tryz.cellsOf9 : Tryz.prog.cellsOf 9 = 1 := by kernel_rfl
theorem Tryz.cellsOf5 : Tryz.prog.cellsOf 5 = 1 := by kernel_rfl
theorem Tryz.bytesOf119 : Tryz.prog.bytesOf 119 = 88 := by kernel_rfl
theorem reach_is : reachBytes = 140737488351232 := by decide
theorem add_none' (b o i : Nat) : (⟨b, o, none⟩ : Addr).add i = ⟨b, o + i, none⟩ := by
 cases i with
 | zero => rfl
 | succ i => rfl
theorem mem_weightsAll {H : Type} {P : Program} {e : TypeId} {d : DataW H} : ∀ {ds : List (DataW H)}, d ∈ ds → ∀ n ∈ d.weights P e, n ∈ DataW.weightsAll P e ds
 | d0 :: ds, h, n, hn => by
  simp only [DataW.weightsAll, List.mem_append]
  rcases List.mem_cons.1 h with rfl | h
  ·exact .inl hn
  ·exact .inr (mem_weightsAll h n hn)
theorem wf_u8 {n : Int} (h : (Lit.int .u8 n).wf = true) : 0 ≤ n ∧ n < 256 := by
 have h1 : IntKind.u8.min = 0 := by decide
 have h2 : IntKind.u8.max = 255 := by decide
 simp only [Lit.wf, h1, h2, Bool.and_eq_true, decide_eq_true_eq] at h
 omega
theorem wf_i64 {n : Int} (h : (Lit.int .i64 n).wf = true) : -9223372036854775808 ≤ n ∧ n ≤ 9223372036854775807 := by
 have h1 : IntKind.i64.min = -9223372036854775808 := by decide
 have h2 : IntKind.i64.max = 9223372036854775807 := by decide
 simp only [Lit.wf, h1, h2, Bool.and_eq_true, decide_eq_true_eq] at h
 omega
theorem trod_struct5 {H : Type} {enc : TypeId × Value → H} {P : Program} {w : World} {base : Nat} {spare : Nat → Bool} {held : Bool} {t : TypeId} {f0 f1 f2 f3 f4 : Field} {fuel : Nat} {cs : List Value} {x : DataW H × List MemPlace} (ht : P.underlying t = some (.struct #[f0, f1, f2, f3, f4])) (h : DataW.trod enc P w base spare held fuel t cs = some x) :
  ∃ y0 y1 y2 y3 y4 n, x.1 = .agg [y0.1, y1.1, y2.1, y3.1, y4.1] ∧ cs.length = P.cellsOf t ∧ DataW.trod enc P w base spare held n f0.type ((cs.drop f0.offset).take (P.cellsOf f0.type)) = some y0 ∧
   DataW.trod enc P w base spare held n f1.type ((cs.drop f1.offset).take (P.cellsOf f1.type)) = some y1 ∧ DataW.trod enc P w base spare held n f2.type ((cs.drop f2.offset).take (P.cellsOf f2.type)) = some y2 ∧ DataW.trod enc P w base spare held n f3.type ((cs.drop f3.offset).take (P.cellsOf f3.type)) = some y3 ∧ DataW.trod enc P w base spare held n f4.type ((cs.drop f4.offset).take (P.cellsOf f4.type)) = some y4 := by
 obtain ⟨xs, n, _, rfl, hl, hlen, hf⟩ := DataW.trod_struct ht h
 match xs, hlen with
 | [y0, y1, y2, y3, y4], _ => exact ⟨y0, y1, y2, y3, y4, n, by simp, hl, by simpa using hf 0 f0 rfl, by simpa using hf 1 f1 rfl, by simpa using hf 2 f2 rfl, by simpa using hf 3 f3 rfl, by simpa using hf 4 f4 rfl⟩
theorem trod_struct2 {H : Type} {enc : TypeId × Value → H} {P : Program} {w : World} {base : Nat} {spare : Nat → Bool} {held : Bool} {t : TypeId} {f0 f1 : Field} {fuel : Nat} {cs : List Value} {x : DataW H × List MemPlace} (ht : P.underlying t = some (.struct #[f0, f1])) (h : DataW.trod enc P w base spare held fuel t cs = some x) :
  ∃ y0 y1 n, x.1 = .agg [y0.1, y1.1] ∧ cs.length = P.cellsOf t ∧ DataW.trod enc P w base spare held n f0.type ((cs.drop f0.offset).take (P.cellsOf f0.type)) = some y0 ∧
   DataW.trod enc P w base spare held n f1.type ((cs.drop f1.offset).take (P.cellsOf f1.type)) = some y1 := by
 obtain ⟨xs, n, _, rfl, hl, hlen, hf⟩ := DataW.trod_struct ht h
 match xs, hlen with
 | [y0, y1], _ => exact ⟨y0, y1, n, by simp, hl, by simpa using hf 0 f0 rfl, by simpa using hf 1 f1 rfl⟩
theorem take_one {l : List Value} {i : Nat} {v : Value} (h : (l.drop i).take 1 = [v]) : l[i]? = some v := by
 have h2 : ((l.drop i).take 1)[0]? = some v := by rw [h]; rfl
 rw [List.getElem?_take, if_pos (by omega), List.getElem?_drop] at h2
 simpa using h2
theorem hash_of_trod {H : Type} {enc : TypeId × Value → H} {W : World} {sp : Nat → Bool} {held : Bool} {n base : Nat} {l : List Value} {x : DataW H × List MemPlace} (hf : DataW.trod enc Tryz.prog W base sp held n 36 l = some x) :
  ∃ c : List Int, l = bv (hl 32 (hof c)) ∧ c.length = 32 ∧ Byts c := by
 obtain ⟨xs, m, _, _, hl_, hx, hel⟩ := DataW.trod_array Tryz.underlying36 hf
 rw [Tryz.cellsOf36] at hl_
 rw [Tryz.cellsOf5] at hel
 have each : ∀ i, i < 32 → ∃ z : Int, l[i]? = some (.int .u8 z) ∧ 0 ≤ z ∧ z < 256 := by
  intro i hi
  have h1 := hel i hi
  rw [List.getElem?_eq_getElem (by omega), Nat.mul_one] at h1
  obtain ⟨z, hz, _, hw⟩ := DataW.trod_int Tryz.underlying5 h1
  have hb := wf_u8 hw
  exact ⟨z, take_one hz, by omega, by omega⟩
 obtain ⟨c, hc⟩ := Go.Deep.choose_lt each
 refine ⟨hl 32 c, ?_, hl_len _ _, fun z hz => ?_⟩
 ·rw [hl_of, ← hl_bytesA]
  apply List.ext_getElem?
  intro i
  by_cases hi : i < 32
  ·rw [(hc i hi).1, Array.getElem?_toList, bytesA_get _ _ _ hi]
  ·rw [List.getElem?_eq_none (by omega), List.getElem?_eq_none (by rw [Array.length_toList, bytesA_size]; omega)]
 ·unfold hl at hz
  obtain ⟨i, hi, rfl⟩ := List.mem_map.1 hz
  exact (hc i (List.mem_range.1 hi)).2
theorem one_of {cs : List Value} {v : Value} {j : Nat} (h : (cs.drop j).take 1 = [v]) : cs[j]? = some v := take_one h
theorem op_of_trod {H : Type} {enc : TypeId × Value → H} {W : World} {sp : Nat → Bool} {held : Bool} {n base : Nat} {cs : List Value} {x : DataW H × List MemPlace} (hf : DataW.trod enc Tryz.prog W base sp held n 119 cs = some x) (hw : ∀ n ∈ x.1.weights Tryz.prog 119, n ≤ reachBytes) :
  ∃ q : OpV, cs = opL q ∧ OpOk q := by
 obtain ⟨y0, y1, y2, y3, y4, k, hx, hl0, h0, h1, h2, h3, h4⟩ := trod_struct5 Tryz.underlying119 hf
 rw [Tryz.cellsOf119] at hl0
 simp only [Tryz.cellsOf3, Tryz.cellsOf9, Tryz.cellsOf2, Tryz.cellsOf117] at h0 h1 h2 h3 h4
 obtain ⟨z0, e0, _, w0⟩ := DataW.trod_int Tryz.underlying3 h0
 obtain ⟨s1, e1, f1, w1⟩ := DataW.trod_string Tryz.underlying9 h1
 obtain ⟨s2, e2, f2, w2⟩ := DataW.trod_string Tryz.underlying9 h2
 obtain ⟨z3, e3, _, w3⟩ := DataW.trod_int Tryz.underlying2 h3
 obtain ⟨a0, a1, k2, hx4, hl4, g0, g1⟩ := trod_struct2 Tryz.underlying117 h4
 rw [Tryz.cellsOf117] at hl4
 simp only [Tryz.cellsOf36, Tryz.cellsOf3] at g0 g1
 obtain ⟨c, ec, hc1, hc2⟩ := hash_of_trod g0
 obtain ⟨z4, e4, _, w4⟩ := DataW.trod_int Tryz.underlying3 g1
 have b0 := wf_i64 w0
 have b3 := wf_i64 w3
 have b4 := wf_i64 w4
 have kb1 : s1.size ≤ reachBytes := hw s1.size (by
  rw [hx]
  simp only [DataW.weights, Tryz.underlying119]
  refine DataW.weights_mem_each (j := 1) (t := 9) rfl rfl _ ?_
  rw [f1]
  simp [DataW.weights])
 have kb2 : s2.size ≤ reachBytes := hw s2.size (by
  rw [hx]
  simp only [DataW.weights, Tryz.underlying119]
  refine DataW.weights_mem_each (j := 2) (t := 9) rfl rfl _ ?_
  rw [f2]
  simp [DataW.weights])
 rw [reach_is] at kb1 kb2
 refine ⟨⟨z0, s1, s2, z3, c, z4⟩, ?_, ⟨hc1, hc2, b0.1, b0.2, b3.1, b3.2, b4.1, b4.2, by simp only; omega, by simp only; omega⟩⟩
 have q0 : cs[0]? = some (.int .i64 z0) := one_of (by simpa using e0)
 have q1 : cs[1]? = some (.string s1) := one_of (by simpa using e1)
 have q2 : cs[2]? = some (.string s2) := one_of (by simpa using e2)
 have q3 : cs[3]? = some (.int .i64 z3) := one_of (by simpa using e3)
 have hd : cs.drop 4 = idL c z4 := by
  have hfull : (cs.drop 4).take 33 = cs.drop 4 := List.take_of_length_le (by rw [List.length_drop]; omega)
  rw [hfull] at ec e4
  have q4 : (cs.drop 4)[32]? = some (.int .i64 z4) := one_of (by simpa using e4)
  rw [List.drop_zero] at ec
  unfold idL
  rw [← ec, ← List.take_append_drop 32 (cs.drop 4)]
  congr 1
  ·rw [List.take_append_drop]
  ·apply List.ext_getElem?
   intro i
   match i with
   | 0 => rw [List.getElem?_drop]; simpa using q4
   | i + 1 => rw [List.getElem?_eq_none (by rw [List.length_drop, List.length_drop]; omega)]; simp
 unfold opL
 rw [← hd, ← List.take_append_drop 4 cs]
 congr 1
 ·apply List.ext_getElem?
  intro i
  match i with
  | 0 => rw [List.getElem?_take, if_pos (by omega), q0]; rfl
  | 1 => rw [List.getElem?_take, if_pos (by omega), q1]; rfl
  | 2 => rw [List.getElem?_take, if_pos (by omega), q2]; rfl
  | 3 => rw [List.getElem?_take, if_pos (by omega), q3]; rfl
  | i + 4 => rw [List.getElem?_eq_none (by rw [List.length_take]; omega)]; simp
 ·rw [List.take_append_drop]
theorem ops_of_trod {H : Type} {enc : TypeId × Value → H} {W : World} {sp : Nat → Bool} {held : Bool} {fuel base : Nat} {v : Value} {x : DataW H × List MemPlace} (hf : DataW.trod enc Tryz.prog W base sp held fuel 48 [v] = some x) (hw : ∀ n ∈ x.1.weights Tryz.prog 48, n ≤ reachBytes) :
  ∃ l : List OpV, OpsAt W v l ∧ (∀ q ∈ l, OpOk q) ∧ l.length ≤ 4398046511104 := by
 rcases open_slice Tryz.underlying48 hf with ⟨hcs, _⟩ | ⟨a, len, cap, m, n, D, Pl, hcs, _, hl_, hm, hz, hx, hcell⟩
 ·simp at hcs
  subst hcs
  exact ⟨[], .inl ⟨none, 0, rfl, rfl⟩, by simp, by simp⟩
 ·simp at hcs
  subst hcs
  have hlz : len ≤ m := by rw [hz]; split <;> omega
  have hb : len ≤ 4398046511104 := by
   have h1 := hw ((((List.range len).map D).length + ((List.range (m - len)).map fun j => D (len + j)).length) * 88) (by
    rw [hx]
    simp only [DataW.weights, Tryz.underlying48]
    simp [Tryz.bytesOf119])
   rw [reach_is] at h1
   simp only [List.length_map, List.length_range] at h1
   omega
  have hwD : ∀ i, i < len → ∀ n ∈ (D i).weights Tryz.prog 119, n ≤ reachBytes := fun i hi n hn => hw n (by
   rw [hx]
   simp only [DataW.weights, Tryz.underlying48]
   refine List.mem_cons_of_mem _ (List.mem_append_left _ (mem_weightsAll (d := D i) ?_ n hn))
   exact List.mem_map.2 ⟨i, List.mem_range.2 hi, rfl⟩)
  have each : ∀ i, i < len → ∃ q : OpV, (∀ j v, (opL q)[j]? = some v → W.cell? ((a.add (i * 37)).add j) = some v) ∧ OpOk q := by
   intro i hi
   obtain ⟨cs', h1, h2⟩ := hcell i (by omega)
   rw [Tryz.cellsOf119] at h1
   obtain ⟨_, hlen, hce⟩ := World.cells?_some h1
   obtain ⟨q, rfl, h3⟩ := op_of_trod h2 (hwD i hi)
   refine ⟨q, fun j v hv => ?_, h3⟩
   obtain ⟨hj, e⟩ := List.getElem?_eq_some_iff.1 hv
   rw [opL_len] at hj
   rw [hce j (by omega), ← hv]
  haveI : Inhabited OpV := ⟨zeroOp⟩
  obtain ⟨q, hq⟩ := Go.Deep.choose_lt each
  refine ⟨(List.range len).map q, ?_, ?_, by simpa using hb⟩
  ·by_cases h0 : len = 0
   ·subst h0
    exact .inl ⟨_, _, rfl, rfl⟩
   ·have hs : a.spot = none := by
     have := (hq 0 (by omega)).1 0 _ (show (opL (q 0))[0]? = some (.int .i64 (q 0).kind) by simp [opL])
     rw [Nat.zero_mul, show a.add 0 = a from rfl] at this
     rw [show a.add 0 = a from rfl] at this
     exact World.cell?_spot this
    obtain ⟨b, off, sp⟩ := a
    obtain rfl : sp = none := hs
    refine .inr ⟨b, off, cap, by simp, by simp; omega, fun i x hxi j v hv => ?_⟩
    obtain ⟨hi, e⟩ := List.getElem?_eq_some_iff.1 hxi
    simp at hi e
    subst e
    have := (hq i hi).1 j v hv
    simp only [add_none'] at this
    exact this
  ·intro z hz'
   obtain ⟨i, hi, rfl⟩ := List.mem_map.1 hz'
   exact (hq i (List.mem_range.1 hi)).2
end Go.Proofs.YthlohkgdmfkpeaaGreat.Nd
namespace Go.Proofs.YthlohkgdmfkpeaaGreat.Nd
open Go.RowKit
theorem hs_f (c : List Int) (hc : Byts c) (i : Nat) (hi : i < 32) : (hs c).f i = c.getD i 0 := by
 have := hc.getD i
 rw [Sh.Hs.f_get _ _ hi]
 simp only [hs, Vector.getElem_ofFn]
 rw [UInt8.toNat_ofNat_of_lt' (by show (c.getD i 0).toNat < 256; omega)]
 omega
theorem hB_hs (c : List Int) (h : c.length = 32) (hc : Byts c) : hB (hs c) = c := by
 unfold hB hl
 apply List.ext_getElem (by simp [h])
 intro i h1 h2
 simp only [List.getElem_map, List.getElem_range]
 rw [hs_f c hc i (by omega)]
 simp [List.getD_eq_getElem?_getD, h2]
theorem encH_B (h : Hs) : Sh.encH h = bv (hB h) := by
 show (bytesA 32 h.f).toList = _
 rw [hl_bytesA]; rfl
end Go.Proofs.YthlohkgdmfkpeaaGreat.Nd
namespace Go.Proofs.YthlohkgdmfkpeaaGreat.Nd
open Go.ChangeShapes Go.WideShapes Go.ChangeAt Go.RowKit Go.Deep
theorem Tryz.cellsOf50 : Tryz.prog.cellsOf 50 = 4 := by kernel_rfl
theorem Tryz.cellsOf24 : Tryz.prog.cellsOf 24 = 1 := by kernel_rfl
theorem Tryz.cellsOf48 : Tryz.prog.cellsOf 48 = 1 := by kernel_rfl
theorem Tryz.bytesOf36 : Tryz.prog.bytesOf 36 = 32 := by kernel_rfl
theorem hashH_of_trod {H : Type} {enc : TypeId × Value → H} {W : World} {sp : Nat → Bool} {held : Bool} {n base : Nat} {l : List Value} {x : DataW H × List MemPlace} (hf : DataW.trod enc Tryz.prog W base sp held n 36 l = some x) : ∃ h : Hs, l = Sh.encH h := by
 obtain ⟨c, e, h1, h2⟩ := hash_of_trod hf
 exact ⟨hs c, by rw [e, encH_B, hB_hs c h1 h2, hl_hof c h1]⟩
theorem hs_of_trod {H : Type} {enc : TypeId × Value → H} {W : World} {sp : Nat → Bool} {held : Bool} {fuel base : Nat} {v : Value} {x : DataW H × List MemPlace} (hf : DataW.trod enc Tryz.prog W base sp held fuel 24 [v] = some x) (hw : ∀ n ∈ x.1.weights Tryz.prog 24, n ≤ reachBytes) :
  ∃ l : List Hs, Sh.HRow W v l ∧ l.length ≤ 4398046511104 := by
 rcases open_slice Tryz.underlying24 hf with ⟨hcs, _⟩ | ⟨a, len, cap, m, n, D, Pl, hcs, _, hl_, hm, hz, hx, hcell⟩
 ·simp at hcs
  subst hcs
  exact ⟨[], .inl ⟨none, 0, rfl, rfl, fun _ => rfl⟩, by simp⟩
 ·simp at hcs
  subst hcs
  have hlz : len ≤ m := by rw [hz]; split <;> omega
  have hb : len ≤ 4398046511104 := by
   have h1 := hw ((((List.range len).map D).length + ((List.range (m - len)).map fun j => D (len + j)).length) * 32) (by
    rw [hx]
    simp only [DataW.weights, Tryz.underlying24]
    simp [Tryz.bytesOf36])
   rw [reach_is] at h1
   simp only [List.length_map, List.length_range] at h1
   omega
  have each : ∀ i, i < len → ∃ q : Hs, ∀ j v, (Sh.encH q)[j]? = some v → W.cell? ((a.add (i * 32)).add j) = some v := by
   intro i hi
   obtain ⟨cs', h1, h2⟩ := hcell i (by omega)
   rw [Tryz.cellsOf36] at h1
   obtain ⟨_, hlen, hce⟩ := World.cells?_some h1
   obtain ⟨q, hqe⟩ := hashH_of_trod h2
   clear h2
   refine ⟨q, fun j v hv => ?_⟩
   obtain ⟨hj, e⟩ := List.getElem?_eq_some_iff.1 hv
   rw [Sh.encH_len] at hj
   rw [hce j (by omega), hqe, ← hv]
  obtain ⟨q, hq⟩ := Go.Deep.choose_lt each
  refine ⟨(List.range len).map q, ?_, by simpa using hb⟩
  by_cases h0 : len = 0
  ·subst h0
   exact .inl ⟨some a, cap, rfl, rfl, fun h => by cases h⟩
  ·have hs : a.spot = none := by
    have hv0 : (Sh.encH (q 0))[0]? = some (.int .u8 ((q 0).f 0)) := Sh.encH_get _ 0 (by omega)
    have := hq 0 (by omega) 0 _ hv0
    rw [Nat.zero_mul, show a.add 0 = a from rfl] at this
    rw [show a.add 0 = a from rfl] at this
    exact World.cell?_spot this
   obtain ⟨b, off, sp⟩ := a
   obtain rfl : sp = none := hs
   refine .inr ⟨b, off, cap, by simp, by simp; omega, fun j v hv => ?_⟩
   have hj : j < len * 32 := by
    have := (List.getElem?_eq_some_iff.1 hv).1
    rw [Sh.flatH_len] at this
    simpa using this
   have hi : j / 32 < ((List.range len).map q).length := by simp; omega
   have hg := Sh.flatH_get ((List.range len).map q) (j / 32) hi (j % 32) (Nat.mod_lt _ (by omega))
   rw [show j / 32 * 32 + j % 32 = j by omega, hv] at hg
   have := hq (j / 32) (by simpa using hi) (j % 32) v (by rw [hg]; simp)
   simp only [add_none'] at this
   rwa [show off + j / 32 * 32 + j % 32 = off + j by omega] at this
theorem trod_struct4 {H : Type} {enc : TypeId × Value → H} {P : Program} {w : World} {base : Nat} {spare : Nat → Bool} {held : Bool} {t : TypeId} {f0 f1 f2 f3 : Field} {fuel : Nat} {cs : List Value} {x : DataW H × List MemPlace} (ht : P.underlying t = some (.struct #[f0, f1, f2, f3])) (h : DataW.trod enc P w base spare held fuel t cs = some x) :
  ∃ y0 y1 y2 y3 n, x.1 = .agg [y0.1, y1.1, y2.1, y3.1] ∧ cs.length = P.cellsOf t ∧ DataW.trod enc P w base spare held n f0.type ((cs.drop f0.offset).take (P.cellsOf f0.type)) = some y0 ∧
   DataW.trod enc P w base spare held n f1.type ((cs.drop f1.offset).take (P.cellsOf f1.type)) = some y1 ∧ DataW.trod enc P w base spare held n f2.type ((cs.drop f2.offset).take (P.cellsOf f2.type)) = some y2 ∧ DataW.trod enc P w base spare held n f3.type ((cs.drop f3.offset).take (P.cellsOf f3.type)) = some y3 := by
 obtain ⟨xs, n, _, rfl, hl, hlen, hf⟩ := DataW.trod_struct ht h
 match xs, hlen with
 | [y0, y1, y2, y3], _ => exact ⟨y0, y1, y2, y3, n, by simp, hl, by simpa using hf 0 f0 rfl, by simpa using hf 1 f1 rfl, by simpa using hf 2 f2 rfl, by simpa using hf 3 f3 rfl⟩
theorem list4 (cs : List Value) (h : cs.length = 4) : ∃ a b c d, cs = [a, b, c, d] := by
 match cs, h with
 | [a, b, c, d], _ => exact ⟨a, b, c, d, rfl⟩
theorem node_of_trod {H : Type} {enc : TypeId × Value → H} {W : World} {sp : Nat → Bool} {held : Bool} {n base : Nat} {cs : List Value} {x : DataW H × List MemPlace} (hf : DataW.trod enc Tryz.prog W base sp held n 50 cs = some x) (hw : ∀ n ∈ x.1.weights Tryz.prog 50, n ≤ reachBytes) :
  ∃ (N : NodeV) (vp vo : Value), cs = [.int .i64 N.au, .int .i64 N.ck, vp, vo] ∧ Sh.HRow W vp N.ps ∧ N.ps.length ≤ 4398046511104 ∧ OpsAt W vo N.ops ∧ (∀ q ∈ N.ops, OpOk q) ∧ N.ops.length ≤ 4398046511104 ∧ (-9223372036854775808 ≤ N.au ∧ N.au ≤ 9223372036854775807) ∧ (-9223372036854775808 ≤ N.ck ∧ N.ck ≤ 9223372036854775807) := by
 obtain ⟨y0, y1, y2, y3, k, hx, hl, h0, h1, h2, h3⟩ := trod_struct4 Tryz.underlying50 hf
 rw [Tryz.cellsOf50] at hl
 obtain ⟨a, b, c, d, rfl⟩ := list4 cs hl
 simp only [Tryz.cellsOf3, Tryz.cellsOf24, Tryz.cellsOf48, List.drop_zero, List.take_succ_cons, List.take_zero, List.drop_succ_cons] at h0 h1 h2 h3
 obtain ⟨n0, e0, w0⟩ := DataW.trod_int Tryz.underlying3 h0
 obtain ⟨n1, e1, w1⟩ := DataW.trod_int Tryz.underlying3 h1
 obtain ⟨l, r1, r2⟩ := hs_of_trod h2 (fun n hn => hw n (by
  rw [hx]
  simp only [DataW.weights, Tryz.underlying50]
  exact DataW.weights_mem_each (j := 2) (t := 24) rfl rfl n hn))
 obtain ⟨m, q1, q2, q3⟩ := ops_of_trod h3 (fun n hn => hw n (by
  rw [hx]
  simp only [DataW.weights, Tryz.underlying50]
  exact DataW.weights_mem_each (j := 3) (t := 48) rfl rfl n hn))
 simp at e0 e1
 exact ⟨⟨n0, n1, l, m⟩, c, d, by rw [e0, e1], r1, r2, q1, q2, q3, wf_i64 w0.2, wf_i64 w1.2⟩
end Go.Proofs.YthlohkgdmfkpeaaGreat.Nd
namespace Go.Proofs.YthlohkgdmfkpeaaGreat.Nd
open Go.ChangeShapes Go.WideShapes Go.ChangeAt Go.RowKit Go.Deep
theorem OpsAt.blt {w : World} {v : Value} {l : List OpV} (h : OpsAt w v l) (hne : l ≠ []) : ∀ k, v.ownBlock = some k → k < w.heap.size := by
 rcases h with ⟨a, c, rfl, rfl⟩ | ⟨b, off, cap, rfl, _, h⟩
 ·exact absurd rfl hne
 ·intro k hk
  simp [Value.ownBlock] at hk
  subst hk
  match l, hne with
  | x :: r, _ =>
   have h1 := h 0 x rfl 0 (.int .i64 x.kind) (by simp [opL])
   exact cell_lt h1
end Go.Proofs.YthlohkgdmfkpeaaGreat.Nd
