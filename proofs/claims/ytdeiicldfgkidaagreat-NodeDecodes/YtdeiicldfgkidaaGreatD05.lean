import Derived.Test.YtdeiicldfgkidaaGreatD04
namespace Go.Proofs.YtdeiicldfgkidaaGreat
open Go.RowKit

theorem wpList_wanted {P : Program} {ops : Array Oper} {rest : List Oper} {o : Oper} {a : Act} {w : World} {Q : Exit → Act → World → Prop} (hw : Region.wanted o (yielded ops a.tmps) = true)
  (h : ∀ K : Act → World → Prop, (∀ a w, wpList P ops Q rest a w → K a w) → o.wp P a w K Q) : wpList P ops Q (o :: rest) a w :=
 wpList_step fun K hK => by rw [if_pos hw]; exact h K hK

theorem wp_bldG {P : Program} {o : Oper} {a : Act} {w : World} {K : Act → World → Prop} {Q : Exit → Act → World → Prop} (t : TypeId) (parts : Array (Nat × Operand)) (ho : o.op = .build t parts)
  (cells : Array Value) (hf : P.built t (parts.map fun (i, x) => (i, a.eval x)).toList = some cells) (h : K (a.put o.dst (.agg cells)) w) : o.wp P a w K Q :=
 wp_build t parts ho (by rw [hf]; rfl) (by rw [hf]; exact h)

structure WL (P : Program) (ops : Array Oper) (Q : Exit → Act → World → Prop) (l : List Oper) (a : Act) (w : World) : Prop where
 out : wpList P ops Q l a w
theorem WL.skip {P : Program} {ops : Array Oper} {rest : List Oper} {o : Oper} {a : Act} {w : World} {Q : Exit → Act → World → Prop} (hw : Region.wanted o (yielded ops a.tmps) = false)
  (h : WL P ops Q rest (a.put o.dst undef) w) : WL P ops Q (o :: rest) a w :=
 ⟨wpList_step fun K hK => by rw [if_neg (by rw [hw]; simp)]; exact hK _ _ h.out⟩
theorem WL.val {P : Program} {ops : Array Oper} {rest : List Oper} {o : Oper} {a : Act} {w : World} {Q : Exit → Act → World → Prop} (hw : Region.wanted o (yielded ops a.tmps) = true) (v : Value)
  (hrun : (execOp a.eval o).run P w = .ok (.value v) w) (h : WL P ops Q rest (a.put o.dst v) w) : WL P ops Q (o :: rest) a w :=
 ⟨wpList_wanted hw fun _ hK => wp_val v hrun (hK _ _ h.out)⟩
theorem WL.nil {P : Program} {ops : Array Oper} {a : Act} {w : World} {Q : Exit → Act → World → Prop} (h : Q .normal a w) : WL P ops Q [] a w := ⟨h⟩
theorem pqA {α : Type} (l : List α) (i : Nat) (a : α) : l.toArray.setIfInBounds i a = (l.set i a).toArray := List.setIfInBounds_toArray ..
theorem pqB {α : Type} (a b : α) (l : List α) : (a :: l).set 0 b = b :: l := List.set_cons_zero ..
theorem pqC {α : Type} (a b : α) (l : List α) (n : Nat) : (a :: l).set (n + 1) b = a :: l.set n b := List.set_cons_succ ..
theorem VlS {P : Program} {ops : Array Oper} {rest : List Oper} {o : Oper} {a a' : Act} {w : World} {Q : Exit → Act → World → Prop} (v : Value) (h : WL P ops Q rest a' w) (hw : Region.wanted o (yielded ops a.tmps) = true := by kernel_rfl) (hrun : (execOp a.eval o).run P w = .ok (.value v) w := by go_simp) (ha : a.put o.dst v = a' := by simp only [Act.put, pqA, pqB, pqC]; exact rfl) : WL P ops Q (o :: rest) a w := WL.val hw v hrun (by rw [ha]; exact h)
theorem SkS {P : Program} {ops : Array Oper} {rest : List Oper} {o : Oper} {a a' : Act} {w : World} {Q : Exit → Act → World → Prop} (h : WL P ops Q rest a' w) (hw : Region.wanted o (yielded ops a.tmps) = false := by kernel_rfl) (ha : a.put o.dst undef = a' := by simp only [Act.put, pqA, pqB, pqC]; exact rfl) : WL P ops Q (o :: rest) a w := WL.skip hw (by rw [ha]; exact h)
theorem tkS {P : Program} {md : Region.Mode} {ops : Array Oper} {S : World → Prop} {Q : Exit → Act → World → Prop} {i : Nat} {oi : Oper} {v : Value} {fuel : Nat} {listed : Array Bool} {a a' : Act} {w : World} (hi : ops[i]? = some oi) (hy : YieldsIf P ops S oi v a) (hS : S w) (h : wpAnyH P md ops Q S fuel (listed.setIfInBounds i true) a' w) (hs : Region.noSelect ops = true := by kernel_rfl) (hf : Region.free md ops listed i = true := by kernel_rfl) (hr : (Region.ready md ops listed).contains i = true := by kernel_rfl) (hQ : ∀ c a w, Q (.panic c) (a.put oi.dst v) w → Q (.panic c) a w := by exact fun _ _ _ h => h) (ha : a.put oi.dst v = a' := by simp only [Act.put, pqA, pqB, pqC]; exact rfl) : wpAnyH P md ops Q S (fuel + 1) listed a w := wpAnyH_take hi hs hf hr hQ hy hS (by rw [ha]; exact h)
theorem rgn {P : Program} {ops : Array Oper} {a : Act} {w : World} {Q : Exit → Act → World → Prop} {id : Nat} (h : WL P ops Q ops.toList a w) : (Code.region id ops false).wp P Q a w := wp_region_list h.out
theorem WL.mid {P : Program} {ops : Array Oper} {rest : List Oper} {op : Oper} {a : Act} {w : World} {Q : Exit → Act → World → Prop} (hw : Region.wanted op (yielded ops a.tmps) = true) (ty : TypeId) (x : Operand) (ho : op.op = .load ty x)
  (b o : Nat) (hx : a.eval x = .pointer (some ⟨b, o, none⟩)) (cs : List Value) (d : TypeDesc) (hc : w.rangeAt b o cs)
  (hu : P.underlying ty = some d) (hd : d.isRow = true) (hi : (P.info? ty).map (·.size) = some cs.length)
  (h : WL P ops Q rest (a.put op.dst (.agg cs.toArray)) w) : WL P ops Q (op :: rest) a w :=
 ⟨wpList_wanted hw fun _ hK => wp_load_mid ty x ho b o hx cs d hc hu hd hi (hK _ _ h.out)⟩
theorem WL.call {P : Program} {ops : Array Oper} {rest : List Oper} {o : Oper} {a : Act} {w : World} {Q : Exit → Act → World → Prop} (hw : Region.wanted o (yielded ops a.tmps) = true)
  (h : ∀ K : Act → World → Prop, (∀ a w, WL P ops Q rest a w → K a w) → o.wp P a w K Q) : WL P ops Q (o :: rest) a w :=
 ⟨wpList_wanted hw fun K hK => h K fun a w h => hK a w h.out⟩
def cellV (k : Int) : Int := if k = 1 then 1 else if k = 2 then 1 else if k = 3 then 2 else if k = 4 then 2 else if k = 5 then 2 else if k = 6 then 3 else if k = 7 then 3 else if k = 8 then 4 else if k = 9 then 4 else 0

set_option maxRecDepth 8000 in
set_option maxHeartbeats 1000000 in
theorem cell_any (k : Int) (w : World) : Calls Tryz.prog 110 #[.int .i64 k] w fun e w' => e = .returned (.int .i64 (cellV k)) ∧ w' = w := by
 unfold cellV
 go_enter Tryz.func110, Tryz.ntmps110
 by_cases k1 : k = 1
 ·subst k1
  go_wp2
  go_ret
  exact ⟨rfl, rfl⟩
 ·rw [if_neg k1]
  by_cases k2 : k = 2
  ·subst k2
   go_wp2
   go_ret
   exact ⟨rfl, rfl⟩
  ·rw [if_neg k2]
   by_cases k3 : k = 3
   ·subst k3
    go_wp2
    go_ret
    exact ⟨rfl, rfl⟩
   ·rw [if_neg k3]
    by_cases k4 : k = 4
    ·subst k4
     go_wp2
     go_ret
     exact ⟨rfl, rfl⟩
    ·rw [if_neg k4]
     by_cases k5 : k = 5
     ·subst k5
      go_wp2
      go_ret
      exact ⟨rfl, rfl⟩
     ·rw [if_neg k5]
      by_cases k6 : k = 6
      ·subst k6
       go_wp2
       go_ret
       exact ⟨rfl, rfl⟩
      ·rw [if_neg k6]
       by_cases k7 : k = 7
       ·subst k7
        go_wp2
        go_ret
        exact ⟨rfl, rfl⟩
       ·rw [if_neg k7]
        by_cases k8 : k = 8
        ·subst k8
         go_wp2
         go_ret
         exact ⟨rfl, rfl⟩
        ·rw [if_neg k8]
         by_cases k9 : k = 9
         ·subst k9
          go_wp2
          go_ret
          exact ⟨rfl, rfl⟩
         ·rw [if_neg k9]
          go_wp2
          go_ret
          exact ⟨rfl, rfl⟩

theorem same_any (x y : OpV) (w : World) : Calls Tryz.prog 137 #[.agg (opA x), .agg (opA y)] w fun e w' => e = .returned (.bool (sm x y)) ∧ Below w.heap.size w w' := by
 have HX := Keep.mk ((Blk.new w 88 (opA x)).alloc (.cells (opA y) 88))
 have HY : Keep (Blk ((w.alloc (.cells (opA x) 88)).alloc (.cells (opA y) 88)) (w.heap.size + 1) 88 (opA y)) := ⟨by
  have h := Blk.new (w.alloc (.cells (opA x) 88)) 88 (opA y)
  simp only [World.size_alloc] at h
  exact h⟩
 have HB : Keep (Below w.heap.size w ((w.alloc (.cells (opA x) 88)).alloc (.cells (opA y) 88))) := ⟨(below_new w _).alloc (by simp) _⟩
 have he := run_eql33 x y
 go_enter Tryz.func137, Tryz.ntmps137
 go_wp2_with (first | (refine wpList_boxA rfl 88 (.tmp 0) rfl (opA x) rfl ?_; refine wpList_boxA rfl 88 (.tmp 1) rfl (opA y) rfl ?_) | (refine wpList_load_row rfl 88 (.tmp 2) rfl w.heap.size rfl 88 (opA x) (0, 0) _ HX.out Tryz.underlying88 rfl (Tryz.size88B x) ?_; refine wpList_load_row rfl 88 (.tmp 3) rfl (w.heap.size + 1) rfl 88 (opA y) (0, 0) _ HY.out Tryz.underlying88 rfl (Tryz.size88B y) ?_))
 go_ret
 exact ⟨rfl, HB.out⟩

def txt (k : Int) : Bool := k == 1 || k == 3 || k == 4 || k == 8
def hat (k : Int) : Bool := k == 8 || k == 9
set_option maxRecDepth 8000 in
set_option maxHeartbeats 1000000 in
theorem hasText_any (k : Int) (w : World) : Calls Tryz.prog 92 #[.int .i64 k] w fun e w' => e = .returned (.bool (txt k)) ∧ w' = w := by
 go_enter Tryz.func92, Tryz.ntmps92
 by_cases k1 : k = 1
 ·subst k1
  go_wp2
  go_ret
  exact ⟨rfl, rfl⟩
 ·by_cases k3 : k = 3
  ·subst k3
   go_wp2
   go_ret
   exact ⟨rfl, rfl⟩
  ·by_cases k4 : k = 4
   ·subst k4
    go_wp2
    go_ret
    exact ⟨rfl, rfl⟩
   ·by_cases k8 : k = 8
    ·subst k8
     go_wp2
     go_ret
     exact ⟨rfl, rfl⟩
    ·go_wp2
     go_ret
     exact ⟨rfl, rfl⟩
set_option maxRecDepth 8000 in
set_option maxHeartbeats 1000000 in
theorem hasAt_any (k : Int) (w : World) : Calls Tryz.prog 94 #[.int .i64 k] w fun e w' => e = .returned (.bool (hat k)) ∧ w' = w := by
 go_enter Tryz.func94, Tryz.ntmps94
 by_cases k8 : k = 8
 ·subst k8
  go_wp2
  go_ret
  exact ⟨rfl, rfl⟩
 ·by_cases k9 : k = 9
  ·subst k9
   go_wp2
   go_ret
   exact ⟨rfl, rfl⟩
  ·go_wp2
   go_ret
   exact ⟨rfl, rfl⟩
theorem run_eqlHL (c e : List Int) (w : World) : (binOp .eql 41 (.agg (bytesA 32 (hof c)).toList.toArray) (.agg (bytesA 32 (hof e)).toList.toArray)).run Tryz.prog w = .ok (.bool (nd c e)) w := by rw [Array.toArray_toList, Array.toArray_toList]; exact run_eqlH c e w
theorem idA_range {w : World} {g : Nat} {T : TypeId} {c : List Int} {o : Int} (h : Blk w g T (idA c o)) : w.rangeAt g 0 (bytesA 32 (hof c)).toList := fun j v hv => by
 rw [hl_bytesA, ← idL_node c o, List.getElem?_take] at hv
 split at hv
 ·rw [Nat.zero_add, h.cell]; unfold idA; rw [List.getElem?_toArray]; exact hv
 ·cases hv
theorem opA_range {w : World} {g : Nat} {T : TypeId} {x : OpV} (h : Blk w g T (opA x)) : w.rangeAt g 4 (idL x.node x.op) := fun j v hv => by
 rw [h.cell]; unfold opA; rw [List.getElem?_toArray, ← List.getElem?_drop, opL_at]; exact hv
theorem opA_nodes {w : World} {g : Nat} {T : TypeId} {x : OpV} (h : Blk w g T (opA x)) : w.rangeAt g 4 (bytesA 32 (hof x.node)).toList := fun j v hv => by
 rw [hl_bytesA, ← idL_node x.node x.op, List.getElem?_take] at hv
 split at hv
 ·exact opA_range h j v hv
 ·cases hv
theorem Tryz.size41L (c : List Int) : (Tryz.prog.info? 41).map (·.size) = some (bytesA 32 (hof c)).toList.length := by rw [Array.length_toList]; exact Tryz.size41B _

theorem sm_alt (x y : OpV) : sm x y = ((x.kind == y.kind) && ((x.key.toList == y.key.toList) && ((x.text.toList == y.text.toList) && ((x.n == y.n) && ((x.op == y.op) && nd x.node y.node))))) := by
 unfold sm
 rw [beq_toListBytes, beq_toListBytes, Bool.and_comm (nd x.node y.node)]
set_option maxRecDepth 8000 in
set_option maxHeartbeats 2000000 in
theorem rsame_any (x y : OpV) (w : World) : Calls Tryz.prog 32 #[.agg (opA x), .agg (opA y)] w fun e w' => e = .returned (.bool (sm x y)) ∧ Below w.heap.size w w' := by
 have HX := Keep.mk ((Blk.new w 88 (opA x)).alloc (.cells (opA y) 88))
 have HY : Keep (Blk ((w.alloc (.cells (opA x) 88)).alloc (.cells (opA y) 88)) (w.heap.size + 1) 88 (opA y)) := ⟨by
  have h := Blk.new (w.alloc (.cells (opA x) 88)) 88 (opA y)
  simp only [World.size_alloc] at h
  exact h⟩
 have HB : Keep (Below w.heap.size w ((w.alloc (.cells (opA x) 88)).alloc (.cells (opA y) 88))) := ⟨(below_new w _).alloc (by simp) _⟩
 have HA := Keep.mk (sm_alt x y)
 obtain ⟨w1, hw1⟩ : ∃ w1, Keep ((w.alloc (.cells (opA x) 88)).alloc (.cells (opA y) 88) = w1) := ⟨_, ⟨rfl⟩⟩
 rw [hw1.out] at HX HY HB
 have a0 : w1.cell? ⟨w.heap.size, 0, none⟩ = some (.int .i64 x.kind) := by rw [HX.out.cell, opA_0]
 have a1 : w1.cell? ⟨w.heap.size, 1, none⟩ = some (.string x.key) := by rw [HX.out.cell, opA_1]
 have a2 : w1.cell? ⟨w.heap.size, 2, none⟩ = some (.string x.text) := by rw [HX.out.cell, opA_2]
 have a3 : w1.cell? ⟨w.heap.size, 3, none⟩ = some (.int .i64 x.n) := by rw [HX.out.cell, opA_3]
 have a4 : w1.cell? ⟨w.heap.size, 36, none⟩ = some (.int .i64 x.op) := by rw [HX.out.cell, opA_36]
 have b0 : w1.cell? ⟨w.heap.size + 1, 0, none⟩ = some (.int .i64 y.kind) := by rw [HY.out.cell, opA_0]
 have b1 : w1.cell? ⟨w.heap.size + 1, 1, none⟩ = some (.string y.key) := by rw [HY.out.cell, opA_1]
 have b2 : w1.cell? ⟨w.heap.size + 1, 2, none⟩ = some (.string y.text) := by rw [HY.out.cell, opA_2]
 have b3 : w1.cell? ⟨w.heap.size + 1, 3, none⟩ = some (.int .i64 y.n) := by rw [HY.out.cell, opA_3]
 have b4 : w1.cell? ⟨w.heap.size + 1, 36, none⟩ = some (.int .i64 y.op) := by rw [HY.out.cell, opA_36]
 have HRx := Keep.mk (opA_nodes HX.out)
 have HRy := Keep.mk (opA_nodes HY.out)
 have he := run_eqlHL x.node y.node
 have hsx := Keep.mk (Tryz.size41L x.node)
 have hsy := Keep.mk (Tryz.size41L y.node)
 generalize nd x.node y.node = E at *
 generalize (bytesA 32 (hof x.node)).toList = cX at *
 generalize (bytesA 32 (hof y.node)).toList = cY at *
 generalize sm x y = R at *
 go_enter Tryz.func32, Tryz.ntmps32
 cases e0 : (x.kind == y.kind)
 ·refine wp_seq_k fun K1 hK1 => ?_
  refine wp_region_list ?_
  refine wpList_boxA rfl 88 (.tmp 0) rfl (opA x) rfl ?_
  refine wpList_boxA rfl 88 (.tmp 1) rfl (opA y) rfl ?_
  rw [hw1.out]
  refine WL.out (WL.val (by kernel_rfl) (.bool false) (by go_simp) (WL.nil (hK1 _ _ ?_)))
  refine wp_seq_k fun K2 hK2 => rgn ?_
  refine VlS (.pointer (some ⟨w.heap.size, 0, none⟩)) ?_
  refine VlS (.int .i64 x.kind) ?_
  refine VlS (.pointer (some ⟨w.heap.size + 1, 0, none⟩)) ?_
  refine VlS (.int .i64 y.kind) ?_
  refine VlS (.bool false) ?_
  refine VlS (.bool false) ?_
  refine SkS ?_
  refine SkS ?_
  refine SkS ?_
  refine SkS ?_
  refine SkS ?_
  refine VlS (.bool false) ?_
  refine VlS (.bool false) ?_
  refine SkS ?_
  refine SkS ?_
  refine SkS ?_
  refine SkS ?_
  refine SkS ?_
  refine VlS (.bool false) ?_
  refine VlS (.bool false) ?_
  refine SkS ?_
  refine SkS ?_
  refine SkS ?_
  refine SkS ?_
  refine SkS ?_
  refine VlS (.bool false) ?_
  refine VlS (.bool false) ?_
  refine SkS ?_
  refine SkS ?_
  refine SkS ?_
  refine SkS ?_
  refine SkS ?_
  refine SkS ?_
  refine SkS ?_
  refine VlS (.bool false) ?_
  refine VlS (.bool false) ?_
  refine SkS ?_
  refine SkS ?_
  refine SkS ?_
  refine SkS ?_
  refine SkS ?_
  refine SkS ?_
  refine SkS ?_
  refine VlS (.bool false) ?_
  refine VlS (.bool false) ?_
  refine WL.nil (hK2 _ _ ?_)
  go_wp2
  go_ret
  exact ⟨by rw [HA.out, e0]; rfl, HB.out⟩
 ·cases e1 : (x.key.toList == y.key.toList)
  ·refine wp_seq_k fun K1 hK1 => ?_
   refine wp_region_list ?_
   refine wpList_boxA rfl 88 (.tmp 0) rfl (opA x) rfl ?_
   refine wpList_boxA rfl 88 (.tmp 1) rfl (opA y) rfl ?_
   rw [hw1.out]
   refine WL.out (WL.val (by kernel_rfl) (.bool false) (by go_simp) (WL.nil (hK1 _ _ ?_)))
   refine wp_seq_k fun K2 hK2 => rgn ?_
   refine VlS (.pointer (some ⟨w.heap.size, 0, none⟩)) ?_
   refine VlS (.int .i64 x.kind) ?_
   refine VlS (.pointer (some ⟨w.heap.size + 1, 0, none⟩)) ?_
   refine VlS (.int .i64 y.kind) ?_
   refine VlS (.bool true) ?_
   refine VlS (.bool true) ?_
   refine VlS (.pointer (some ⟨w.heap.size, 1, none⟩)) ?_
   refine VlS (.string x.key) ?_
   refine VlS (.pointer (some ⟨w.heap.size + 1, 1, none⟩)) ?_
   refine VlS (.string y.key) ?_
   refine VlS (.bool false) ?_
   refine VlS (.bool false) ?_
   refine VlS (.bool false) ?_
   refine SkS ?_
   refine SkS ?_
   refine SkS ?_
   refine SkS ?_
   refine SkS ?_
   refine VlS (.bool false) ?_
   refine VlS (.bool false) ?_
   refine SkS ?_
   refine SkS ?_
   refine SkS ?_
   refine SkS ?_
   refine SkS ?_
   refine VlS (.bool false) ?_
   refine VlS (.bool false) ?_
   refine SkS ?_
   refine SkS ?_
   refine SkS ?_
   refine SkS ?_
   refine SkS ?_
   refine SkS ?_
   refine SkS ?_
   refine VlS (.bool false) ?_
   refine VlS (.bool false) ?_
   refine SkS ?_
   refine SkS ?_
   refine SkS ?_
   refine SkS ?_
   refine SkS ?_
   refine SkS ?_
   refine SkS ?_
   refine VlS (.bool false) ?_
   refine VlS (.bool false) ?_
   refine WL.nil (hK2 _ _ ?_)
   go_wp2
   go_ret
   exact ⟨by rw [HA.out, e0, e1]; rfl, HB.out⟩
  ·cases e2 : (x.text.toList == y.text.toList)
   ·refine wp_seq_k fun K1 hK1 => ?_
    refine wp_region_list ?_
    refine wpList_boxA rfl 88 (.tmp 0) rfl (opA x) rfl ?_
    refine wpList_boxA rfl 88 (.tmp 1) rfl (opA y) rfl ?_
    rw [hw1.out]
    refine WL.out (WL.val (by kernel_rfl) (.bool false) (by go_simp) (WL.nil (hK1 _ _ ?_)))
    refine wp_seq_k fun K2 hK2 => rgn ?_
    refine VlS (.pointer (some ⟨w.heap.size, 0, none⟩)) ?_
    refine VlS (.int .i64 x.kind) ?_
    refine VlS (.pointer (some ⟨w.heap.size + 1, 0, none⟩)) ?_
    refine VlS (.int .i64 y.kind) ?_
    refine VlS (.bool true) ?_
    refine VlS (.bool true) ?_
    refine VlS (.pointer (some ⟨w.heap.size, 1, none⟩)) ?_
    refine VlS (.string x.key) ?_
    refine VlS (.pointer (some ⟨w.heap.size + 1, 1, none⟩)) ?_
    refine VlS (.string y.key) ?_
    refine VlS (.bool true) ?_
    refine VlS (.bool true) ?_
    refine VlS (.bool true) ?_
    refine VlS (.pointer (some ⟨w.heap.size, 2, none⟩)) ?_
    refine VlS (.string x.text) ?_
    refine VlS (.pointer (some ⟨w.heap.size + 1, 2, none⟩)) ?_
    refine VlS (.string y.text) ?_
    refine VlS (.bool false) ?_
    refine VlS (.bool false) ?_
    refine VlS (.bool false) ?_
    refine SkS ?_
    refine SkS ?_
    refine SkS ?_
    refine SkS ?_
    refine SkS ?_
    refine VlS (.bool false) ?_
    refine VlS (.bool false) ?_
    refine SkS ?_
    refine SkS ?_
    refine SkS ?_
    refine SkS ?_
    refine SkS ?_
    refine SkS ?_
    refine SkS ?_
    refine VlS (.bool false) ?_
    refine VlS (.bool false) ?_
    refine SkS ?_
    refine SkS ?_
    refine SkS ?_
    refine SkS ?_
    refine SkS ?_
    refine SkS ?_
    refine SkS ?_
    refine VlS (.bool false) ?_
    refine VlS (.bool false) ?_
    refine WL.nil (hK2 _ _ ?_)
    go_wp2
    go_ret
    exact ⟨by rw [HA.out, e0, e1, e2]; rfl, HB.out⟩
   ·cases e3 : (x.n == y.n)
    ·refine wp_seq_k fun K1 hK1 => ?_
     refine wp_region_list ?_
     refine wpList_boxA rfl 88 (.tmp 0) rfl (opA x) rfl ?_
     refine wpList_boxA rfl 88 (.tmp 1) rfl (opA y) rfl ?_
     rw [hw1.out]
     refine WL.out (WL.val (by kernel_rfl) (.bool false) (by go_simp) (WL.nil (hK1 _ _ ?_)))
     refine wp_seq_k fun K2 hK2 => rgn ?_
     refine VlS (.pointer (some ⟨w.heap.size, 0, none⟩)) ?_
     refine VlS (.int .i64 x.kind) ?_
     refine VlS (.pointer (some ⟨w.heap.size + 1, 0, none⟩)) ?_
     refine VlS (.int .i64 y.kind) ?_
     refine VlS (.bool true) ?_
     refine VlS (.bool true) ?_
     refine VlS (.pointer (some ⟨w.heap.size, 1, none⟩)) ?_
     refine VlS (.string x.key) ?_
     refine VlS (.pointer (some ⟨w.heap.size + 1, 1, none⟩)) ?_
     refine VlS (.string y.key) ?_
     refine VlS (.bool true) ?_
     refine VlS (.bool true) ?_
     refine VlS (.bool true) ?_
     refine VlS (.pointer (some ⟨w.heap.size, 2, none⟩)) ?_
     refine VlS (.string x.text) ?_
     refine VlS (.pointer (some ⟨w.heap.size + 1, 2, none⟩)) ?_
     refine VlS (.string y.text) ?_
     refine VlS (.bool true) ?_
     refine VlS (.bool true) ?_
     refine VlS (.bool true) ?_
     refine VlS (.pointer (some ⟨w.heap.size, 3, none⟩)) ?_
     refine VlS (.int .i64 x.n) ?_
     refine VlS (.pointer (some ⟨w.heap.size + 1, 3, none⟩)) ?_
     refine VlS (.int .i64 y.n) ?_
     refine VlS (.bool false) ?_
     refine VlS (.bool false) ?_
     refine VlS (.bool false) ?_
     refine SkS ?_
     refine SkS ?_
     refine SkS ?_
     refine SkS ?_
     refine SkS ?_
     refine SkS ?_
     refine SkS ?_
     refine VlS (.bool false) ?_
     refine VlS (.bool false) ?_
     refine SkS ?_
     refine SkS ?_
     refine SkS ?_
     refine SkS ?_
     refine SkS ?_
     refine SkS ?_
     refine SkS ?_
     refine VlS (.bool false) ?_
     refine VlS (.bool false) ?_
     refine WL.nil (hK2 _ _ ?_)
     go_wp2
     go_ret
     exact ⟨by rw [HA.out, e0, e1, e2, e3]; rfl, HB.out⟩
    ·cases e4 : (x.op == y.op)
     ·refine wp_seq_k fun K1 hK1 => ?_
      refine wp_region_list ?_
      refine wpList_boxA rfl 88 (.tmp 0) rfl (opA x) rfl ?_
      refine wpList_boxA rfl 88 (.tmp 1) rfl (opA y) rfl ?_
      rw [hw1.out]
      refine WL.out (WL.val (by kernel_rfl) (.bool false) (by go_simp) (WL.nil (hK1 _ _ ?_)))
      refine wp_seq_k fun K2 hK2 => rgn ?_
      refine VlS (.pointer (some ⟨w.heap.size, 0, none⟩)) ?_
      refine VlS (.int .i64 x.kind) ?_
      refine VlS (.pointer (some ⟨w.heap.size + 1, 0, none⟩)) ?_
      refine VlS (.int .i64 y.kind) ?_
      refine VlS (.bool true) ?_
      refine VlS (.bool true) ?_
      refine VlS (.pointer (some ⟨w.heap.size, 1, none⟩)) ?_
      refine VlS (.string x.key) ?_
      refine VlS (.pointer (some ⟨w.heap.size + 1, 1, none⟩)) ?_
      refine VlS (.string y.key) ?_
      refine VlS (.bool true) ?_
      refine VlS (.bool true) ?_
      refine VlS (.bool true) ?_
      refine VlS (.pointer (some ⟨w.heap.size, 2, none⟩)) ?_
      refine VlS (.string x.text) ?_
      refine VlS (.pointer (some ⟨w.heap.size + 1, 2, none⟩)) ?_
      refine VlS (.string y.text) ?_
      refine VlS (.bool true) ?_
      refine VlS (.bool true) ?_
      refine VlS (.bool true) ?_
      refine VlS (.pointer (some ⟨w.heap.size, 3, none⟩)) ?_
      refine VlS (.int .i64 x.n) ?_
      refine VlS (.pointer (some ⟨w.heap.size + 1, 3, none⟩)) ?_
      refine VlS (.int .i64 y.n) ?_
      refine VlS (.bool true) ?_
      refine VlS (.bool true) ?_
      refine VlS (.bool true) ?_
      refine VlS (.pointer (some ⟨w.heap.size, 4, none⟩)) ?_
      refine VlS (.pointer (some ⟨w.heap.size, 36, none⟩)) ?_
      refine VlS (.int .i64 x.op) ?_
      refine VlS (.pointer (some ⟨w.heap.size + 1, 4, none⟩)) ?_
      refine VlS (.pointer (some ⟨w.heap.size + 1, 36, none⟩)) ?_
      refine VlS (.int .i64 y.op) ?_
      refine VlS (.bool false) ?_
      refine VlS (.bool false) ?_
      refine VlS (.bool false) ?_
      refine SkS ?_
      refine SkS ?_
      refine SkS ?_
      refine SkS ?_
      refine SkS ?_
      refine SkS ?_
      refine SkS ?_
      refine VlS (.bool false) ?_
      refine VlS (.bool false) ?_
      refine WL.nil (hK2 _ _ ?_)
      go_wp2
      go_ret
      exact ⟨by rw [HA.out, e0, e1, e2, e3, e4]; rfl, HB.out⟩
     ·refine wp_seq_k fun K1 hK1 => ?_
      refine wp_region_list ?_
      refine wpList_boxA rfl 88 (.tmp 0) rfl (opA x) rfl ?_
      refine wpList_boxA rfl 88 (.tmp 1) rfl (opA y) rfl ?_
      rw [hw1.out]
      refine WL.out (WL.val (by kernel_rfl) (.bool false) (by go_simp) (WL.nil (hK1 _ _ ?_)))
      refine wp_seq_k fun K2 hK2 => rgn ?_
      refine VlS (.pointer (some ⟨w.heap.size, 0, none⟩)) ?_
      refine VlS (.int .i64 x.kind) ?_
      refine VlS (.pointer (some ⟨w.heap.size + 1, 0, none⟩)) ?_
      refine VlS (.int .i64 y.kind) ?_
      refine VlS (.bool true) ?_
      refine VlS (.bool true) ?_
      refine VlS (.pointer (some ⟨w.heap.size, 1, none⟩)) ?_
      refine VlS (.string x.key) ?_
      refine VlS (.pointer (some ⟨w.heap.size + 1, 1, none⟩)) ?_
      refine VlS (.string y.key) ?_
      refine VlS (.bool true) ?_
      refine VlS (.bool true) ?_
      refine VlS (.bool true) ?_
      refine VlS (.pointer (some ⟨w.heap.size, 2, none⟩)) ?_
      refine VlS (.string x.text) ?_
      refine VlS (.pointer (some ⟨w.heap.size + 1, 2, none⟩)) ?_
      refine VlS (.string y.text) ?_
      refine VlS (.bool true) ?_
      refine VlS (.bool true) ?_
      refine VlS (.bool true) ?_
      refine VlS (.pointer (some ⟨w.heap.size, 3, none⟩)) ?_
      refine VlS (.int .i64 x.n) ?_
      refine VlS (.pointer (some ⟨w.heap.size + 1, 3, none⟩)) ?_
      refine VlS (.int .i64 y.n) ?_
      refine VlS (.bool true) ?_
      refine VlS (.bool true) ?_
      refine VlS (.bool true) ?_
      refine VlS (.pointer (some ⟨w.heap.size, 4, none⟩)) ?_
      refine VlS (.pointer (some ⟨w.heap.size, 36, none⟩)) ?_
      refine VlS (.int .i64 x.op) ?_
      refine VlS (.pointer (some ⟨w.heap.size + 1, 4, none⟩)) ?_
      refine VlS (.pointer (some ⟨w.heap.size + 1, 36, none⟩)) ?_
      refine VlS (.int .i64 y.op) ?_
      refine VlS (.bool true) ?_
      refine VlS (.bool true) ?_
      refine VlS (.bool true) ?_
      refine VlS (.pointer (some ⟨w.heap.size, 4, none⟩)) ?_
      refine VlS (.pointer (some ⟨w.heap.size, 4, none⟩)) ?_
      refine WL.mid (by kernel_rfl) 41 (.tmp 42) rfl w.heap.size 4 rfl cX _ HRx.out Tryz.underlying41 rfl hsx.out ?_
      simp only [Act.put, pqA, pqB, pqC]
      refine VlS (.pointer (some ⟨w.heap.size + 1, 4, none⟩)) ?_
      refine VlS (.pointer (some ⟨w.heap.size + 1, 4, none⟩)) ?_
      refine WL.mid (by kernel_rfl) 41 (.tmp 45) rfl (w.heap.size + 1) 4 rfl cY _ HRy.out Tryz.underlying41 rfl hsy.out ?_
      simp only [Act.put, pqA, pqB, pqC]
      refine VlS (.bool E) ?_
      refine VlS (.bool E) ?_
      refine VlS (.bool E) ?_
      refine WL.nil (hK2 _ _ ?_)
      go_wp2
      go_ret
      exact ⟨by rw [HA.out, e0, e1, e2, e3, e4]; rfl, HB.out⟩
section
variable {P : Program} {ops : Array Oper} {rest : List Oper} {o : Oper} {a : Act} {w : World} {Q : Exit → Act → World → Prop}
theorem WL.row (hw : Region.wanted o (yielded ops a.tmps) = true) (ty : TypeId) (x : Operand) (ho : o.op = .load ty x)
  (b : Nat) (hx : a.eval x = .pointer (some ⟨b, 0, none⟩)) (t : TypeId) (cs : Array Value) (d : TypeDesc) (hc : Blk w b t cs)
  (hu : P.underlying ty = some d) (hd : d.isRow = true) (hi : (P.info? ty).map (·.size) = some cs.size)
  (h : WL P ops Q rest (a.put o.dst (.agg cs)) w) : WL P ops Q (o :: rest) a w :=
 WL.mid hw ty x ho b 0 hx cs.toList d (blk_range hc) hu hd (by rw [Array.length_toList]; exact hi) (by rw [Array.toArray_toList]; exact h)
theorem WL.midA (hw : Region.wanted o (yielded ops a.tmps) = true) (ty : TypeId) (x : Operand) (ho : o.op = .load ty x)
  (b of : Nat) (hx : a.eval x = .pointer (some ⟨b, of, none⟩)) (cs : Array Value) (d : TypeDesc) (hc : w.rangeAt b of cs.toList)
  (hu : P.underlying ty = some d) (hd : d.isRow = true) (hi : (P.info? ty).map (·.size) = some cs.size)
  (h : WL P ops Q rest (a.put o.dst (.agg cs)) w) : WL P ops Q (o :: rest) a w :=
 WL.mid hw ty x ho b of hx cs.toList d hc hu hd (by rw [Array.length_toList]; exact hi) (by rw [Array.toArray_toList]; exact h)
theorem WL.new (hw : Region.wanted o (yielded ops a.tmps) = true) (t : TypeId) (ho : o.op = .alloc t) (cells : Array Value)
  (hf : ∀ w : World, (Instr.alloc t true (.tuple #[])).run P w = .ok (.pointer (some ⟨w.heap.size, 0, none⟩)) (w.alloc (.cells cells t)))
  (h : WL P ops Q rest (a.put o.dst (.pointer (some ⟨w.heap.size, 0, none⟩))) (w.alloc (.cells cells t))) : WL P ops Q (o :: rest) a w :=
 ⟨wpList_wanted hw fun K hK => by
  unfold Oper.wp execOp
  simp only [ho, Sem.run_bind, hf w, Result.andThen_ok]
  exact hK _ _ h.out⟩
theorem WL.box (hw : Region.wanted o (yielded ops a.tmps) = true) (t : TypeId) (x : Operand) (ho : o.op = .box t x) (cs : Array Value) (hx : a.eval x = .agg cs)
  (h : WL P ops Q rest (a.put o.dst (.pointer (some ⟨w.heap.size, 0, none⟩))) (w.alloc (.cells cs t))) : WL P ops Q (o :: rest) a w :=
 ⟨wpList_wanted hw fun K hK => by
  unfold Oper.wp execOp
  simp only [ho, hx, Sem.run_bind, run_box_agg, Result.andThen_ok]
  exact hK _ _ h.out⟩
theorem WL.storeR (hw : Region.wanted o (yielded ops a.tmps) = true) (ty : TypeId) (x y : Operand) (ho : o.op = .store ty x y)
  (g : Nat) (cells : Array Value) (hx : a.eval x = .pointer (some ⟨g, 0, none⟩)) (hy : a.eval y = .agg cells)
  (t : TypeId) (old : Array Value) (hg : Blk w g t old) (hi : (P.info? ty).map (·.size) = some cells.size) (hold : old.size = cells.size) (h1 : cells.all (·.oneCell') = true)
  (h : WL P ops Q rest (a.put o.dst undef) (w.setRow g cells)) : WL P ops Q (o :: rest) a w :=
 ⟨wpList_wanted hw fun _ hK => wp_store_row ty x y ho g cells hx hy t old hg hi hold h1 (hK _ _ h.out)⟩
theorem WL.cell (hw : Region.wanted o (yielded ops a.tmps) = true) (w' : World) (hrun : (execOp a.eval o).run P w = .ok .skip w')
  (h : WL P ops Q rest (a.put o.dst undef) w') : WL P ops Q (o :: rest) a w :=
 ⟨wpList_wanted hw fun _ hK => by unfold Oper.wp; rw [hrun, Oper.upon_skip]; exact hK _ _ h.out⟩
theorem WL.bld (hw : Region.wanted o (yielded ops a.tmps) = true) (t : TypeId) (parts : Array (Nat × Operand)) (ho : o.op = .build t parts)
  (vs : List (Nat × Value)) (hv : (parts.map fun (i, x) => (i, a.eval x)).toList = vs) (cells : Array Value) (hf : P.built t vs = some cells)
  (h : WL P ops Q rest (a.put o.dst (.agg cells)) w) : WL P ops Q (o :: rest) a w :=
 ⟨wpList_wanted hw fun _ hK => wp_bldG t parts ho cells (by rw [hv]; exact hf) (hK _ _ h.out)⟩
theorem WL.bs (hw : Region.wanted o (yielded ops a.tmps) = true) (t : TypeId) (n : Nat) (parts : Array (Nat × Operand)) (ho : o.op = .buildSlice t n parts)
  (vs : Array (Nat × Value)) (hv : (parts.map fun (i, x) => (i, a.eval x)) = vs) (v : Value) (w' : World) (hrun : (Instr.buildSlice t n vs).run P w = .ok v w')
  (h : WL P ops Q rest (a.put o.dst v) w') : WL P ops Q (o :: rest) a w :=
 ⟨wpList_wanted hw fun K hK => by
  unfold Oper.wp execOp
  simp only [ho, hv, Sem.run_bind, hrun, Result.andThen_ok]
  exact hK _ _ h.out⟩
theorem WL.part (hw : Region.wanted o (yielded ops a.tmps) = true) (ty : TypeId) (x y : Operand) (ho : o.op = .store ty x y)
  (g off : Nat) (cells : Array Value) (hx : a.eval x = .pointer (some ⟨g, off, none⟩)) (hy : a.eval y = .agg cells)
  (t : TypeId) (cur : Array Value) (hg : Blk w g t cur) (hi : (P.info? ty).map (·.size) = some cells.size) (hfit : off + cells.size ≤ cur.size) (h1 : cells.all (·.oneCell') = true)
  (new : Array Value) (hn : (cur.toList.take off ++ cells.toList ++ cur.toList.drop (off + cells.size)).toArray = new)
  (h : WL P ops Q rest (a.put o.dst undef) (w.setRow g new)) : WL P ops Q (o :: rest) a w := by
 subst hn
 refine ⟨wpList_wanted hw fun K hK => ?_⟩
 have hst := run_storeCells_at P g off t cells.toList 0 cur w hg (by simpa using hfit) (fun v hv => (Array.all_eq_true_iff_forall_mem.1 h1) v (by simpa using hv))
 have hrun : (storeVar ty ⟨g, off, none⟩ (.agg cells)).run P w = .ok () (w.setRow g (cur.toList.take off ++ cells.toList ++ cur.toList.drop (off + cells.size)).toArray) := by
  cases hq : P.info? ty with
  | none => simp [hq] at hi
  | some i =>
   have hs : cells.size = i.size := by simp [hq] at hi; omega
   simp only [Nat.add_zero, Array.length_toList] at hst
   simp [storeVar, sizeOf, typeInfo, hq, Value.cells, hs, hst]
 unfold Oper.wp execOp
 simp only [ho, hx, hy, Instr.storeAt, Instr.sureAddr, Sem.run_bind, Sem.run_pure, Result.andThen_ok, hrun]
 exact hK _ _ h.out
theorem run_callF (a : Act) (o : Oper) (f : FuncId) (args : Array Operand) (ts : Array TypeId) (ho : o.op = .call { callee := .value (.func f), args := args, argTypes := ts })
  (hf : ∀ (w : World) (vs : Array Value), (callFunc f vs).run P w = .ok (.enter f vs) w) (w : World) :
  (execOp a.eval o).run P w = .ok (.enter f (args.map a.eval)) w := by
 unfold execOp
 simp only [ho]
 simp [resolve, Act.eval, go_sem]
 exact hf w _
theorem run_callV (a : Act) (o : Oper) (f : FuncId) (x : Operand) (args : Array Operand) (ts : Array TypeId) (ho : o.op = .call { callee := .value x, args := args, argTypes := ts }) (hx : a.eval x = .func (.func f) #[] #[])
  (hf : ∀ (w : World) (vs : Array Value), (callFunc f vs).run P w = .ok (.enter f vs) w) (w : World) :
  (execOp a.eval o).run P w = .ok (.enter f (args.map a.eval)) w := by
 unfold execOp
 simp only [ho, resolve, hx]
 generalize Array.map a.eval args = vs
 simp [go_sem]
 exact hf w _
theorem WL.callF (hw : Region.wanted o (yielded ops a.tmps) = true) (f : FuncId) (args : Array Operand) (ts : Array TypeId) (ho : o.op = .call { callee := .value (.func f), args := args, argTypes := ts })
  (hf : ∀ (w : World) (vs : Array Value), (callFunc f vs).run P w = .ok (.enter f vs) w) (vs : Array Value) (hvs : args.map a.eval = vs)
  (hc : Calls P f vs w fun e w' => ∃ v, e = .returned v ∧ WL P ops Q rest (a.put o.dst v) w') : WL P ops Q (o :: rest) a w :=
 ⟨wpList_wanted hw fun K hK => by
  unfold Oper.wp
  rw [run_callF a o f args ts ho hf w, Oper.upon_enter, hvs]
  refine hc.mono ?_
  rintro e w' ⟨v, rfl, hr⟩
  exact hK _ _ hr.out⟩
theorem WL.callV (hw : Region.wanted o (yielded ops a.tmps) = true) (f : FuncId) (x : Operand) (args : Array Operand) (ts : Array TypeId) (ho : o.op = .call { callee := .value x, args := args, argTypes := ts }) (hx : a.eval x = .func (.func f) #[] #[])
  (hf : ∀ (w : World) (vs : Array Value), (callFunc f vs).run P w = .ok (.enter f vs) w) (vs : Array Value) (hvs : args.map a.eval = vs)
  (hc : Calls P f vs w fun e w' => ∃ v, e = .returned v ∧ WL P ops Q rest (a.put o.dst v) w') : WL P ops Q (o :: rest) a w :=
 ⟨wpList_wanted hw fun K hK => by
  unfold Oper.wp
  rw [run_callV a o f x args ts ho hx hf w, Oper.upon_enter, hvs]
  refine hc.mono ?_
  rintro e w' ⟨v, rfl, hr⟩
  exact hK _ _ hr.out⟩
end
theorem Blk.c {w : World} {b : Nat} {T : TypeId} {cs : Array Value} (h : Blk w b T cs) (j : Nat) {v : Value} (hv : cs[j]? = some v) : w.cell? ⟨b, j, none⟩ = some v := by rw [h.cell]; exact hv
theorem Tryz.in42 (w : World) (vs : Array Value) : (callFunc 42 vs).run Tryz.prog w = .ok (.enter 42 vs) w := by kernel_rfl
theorem Tryz.in110 (w : World) (vs : Array Value) : (callFunc 110 vs).run Tryz.prog w = .ok (.enter 110 vs) w := by kernel_rfl
theorem Tryz.in137 (w : World) (vs : Array Value) : (callFunc 137 vs).run Tryz.prog w = .ok (.enter 137 vs) w := by kernel_rfl
theorem Tryz.in32 (w : World) (vs : Array Value) : (callFunc 32 vs).run Tryz.prog w = .ok (.enter 32 vs) w := by kernel_rfl
theorem Tryz.in72 (w : World) (vs : Array Value) : (callFunc 72 vs).run Tryz.prog w = .ok (.enter 72 vs) w := by kernel_rfl
theorem Tryz.in76 (w : World) (vs : Array Value) : (callFunc 76 vs).run Tryz.prog w = .ok (.enter 76 vs) w := by kernel_rfl
theorem Tryz.in39 (w : World) (vs : Array Value) : (callFunc 39 vs).run Tryz.prog w = .ok (.enter 39 vs) w := by kernel_rfl
theorem Tryz.in73 (w : World) (vs : Array Value) : (callFunc 73 vs).run Tryz.prog w = .ok (.enter 73 vs) w := by kernel_rfl
theorem Tryz.in28 (w : World) (vs : Array Value) : (callFunc 28 vs).run Tryz.prog w = .ok (.enter 28 vs) w := by kernel_rfl
theorem Tryz.in53 (w : World) (vs : Array Value) : (callFunc 53 vs).run Tryz.prog w = .ok (.enter 53 vs) w := by kernel_rfl
theorem Tryz.in30 (w : World) (vs : Array Value) : (callFunc 30 vs).run Tryz.prog w = .ok (.enter 30 vs) w := by kernel_rfl
theorem Tryz.in45 (w : World) (vs : Array Value) : (callFunc 45 vs).run Tryz.prog w = .ok (.enter 45 vs) w := by kernel_rfl
theorem Tryz.in89 (w : World) (vs : Array Value) : (callFunc 89 vs).run Tryz.prog w = .ok (.enter 89 vs) w := by kernel_rfl
theorem Tryz.in38 (w : World) (vs : Array Value) : (callFunc 38 vs).run Tryz.prog w = .ok (.enter 38 vs) w := by kernel_rfl
theorem Tryz.in79 (w : World) (vs : Array Value) : (callFunc 79 vs).run Tryz.prog w = .ok (.enter 79 vs) w := by kernel_rfl
theorem Tryz.in80 (w : World) (vs : Array Value) : (callFunc 80 vs).run Tryz.prog w = .ok (.enter 80 vs) w := by kernel_rfl
theorem Tryz.in74 (w : World) (vs : Array Value) : (callFunc 74 vs).run Tryz.prog w = .ok (.enter 74 vs) w := by kernel_rfl
theorem Tryz.in92 (w : World) (vs : Array Value) : (callFunc 92 vs).run Tryz.prog w = .ok (.enter 92 vs) w := by kernel_rfl
theorem Tryz.in94 (w : World) (vs : Array Value) : (callFunc 94 vs).run Tryz.prog w = .ok (.enter 94 vs) w := by kernel_rfl
theorem Tryz.in57 (w : World) (vs : Array Value) : (callFunc 57 vs).run Tryz.prog w = .ok (.enter 57 vs) w := by kernel_rfl
theorem Tryz.in48 (w : World) (vs : Array Value) : (callFunc 48 vs).run Tryz.prog w = .ok (.enter 48 vs) w := by kernel_rfl
theorem Tryz.in88 (w : World) (vs : Array Value) : (callFunc 88 vs).run Tryz.prog w = .ok (.enter 88 vs) w := by kernel_rfl
theorem Tryz.in58 (w : World) (vs : Array Value) : (callFunc 58 vs).run Tryz.prog w = .ok (.enter 58 vs) w := by kernel_rfl
theorem Tryz.in61 (w : World) (vs : Array Value) : (callFunc 61 vs).run Tryz.prog w = .ok (.enter 61 vs) w := by kernel_rfl
theorem Tryz.in109 (w : World) (vs : Array Value) : (callFunc 109 vs).run Tryz.prog w = .ok (.enter 109 vs) w := by kernel_rfl
theorem Tryz.in111 (w : World) (vs : Array Value) : (callFunc 111 vs).run Tryz.prog w = .ok (.enter 111 vs) w := by kernel_rfl
theorem Tryz.in95 (w : World) (vs : Array Value) : (callFunc 95 vs).run Tryz.prog w = .ok (.enter 95 vs) w := by kernel_rfl
theorem Tryz.in82 (w : World) (vs : Array Value) : (callFunc 82 vs).run Tryz.prog w = .ok (.enter 82 vs) w := by kernel_rfl
theorem Tryz.in56 (w : World) (vs : Array Value) : (callFunc 56 vs).run Tryz.prog w = .ok (.enter 56 vs) w := by kernel_rfl
theorem Tryz.in91 (w : World) (vs : Array Value) : (callFunc 91 vs).run Tryz.prog w = .ok (.enter 91 vs) w := by kernel_rfl
theorem Tryz.in93 (w : World) (vs : Array Value) : (callFunc 93 vs).run Tryz.prog w = .ok (.enter 93 vs) w := by kernel_rfl
theorem Tryz.in59 (w : World) (vs : Array Value) : (callFunc 59 vs).run Tryz.prog w = .ok (.enter 59 vs) w := by kernel_rfl
theorem Tryz.in121 (w : World) (vs : Array Value) : (callFunc 121 vs).run Tryz.prog w = .ok (.enter 121 vs) w := by kernel_rfl
theorem Tryz.in122 (w : World) (vs : Array Value) : (callFunc 122 vs).run Tryz.prog w = .ok (.enter 122 vs) w := by kernel_rfl
theorem Tryz.in123 (w : World) (vs : Array Value) : (callFunc 123 vs).run Tryz.prog w = .ok (.enter 123 vs) w := by kernel_rfl
theorem Tryz.in124 (w : World) (vs : Array Value) : (callFunc 124 vs).run Tryz.prog w = .ok (.enter 124 vs) w := by kernel_rfl
theorem Tryz.in125 (w : World) (vs : Array Value) : (callFunc 125 vs).run Tryz.prog w = .ok (.enter 125 vs) w := by kernel_rfl
theorem Tryz.in126 (w : World) (vs : Array Value) : (callFunc 126 vs).run Tryz.prog w = .ok (.enter 126 vs) w := by kernel_rfl
theorem Tryz.in127 (w : World) (vs : Array Value) : (callFunc 127 vs).run Tryz.prog w = .ok (.enter 127 vs) w := by kernel_rfl
theorem Tryz.in128 (w : World) (vs : Array Value) : (callFunc 128 vs).run Tryz.prog w = .ok (.enter 128 vs) w := by kernel_rfl
theorem Tryz.in129 (w : World) (vs : Array Value) : (callFunc 129 vs).run Tryz.prog w = .ok (.enter 129 vs) w := by kernel_rfl
theorem Tryz.in130 (w : World) (vs : Array Value) : (callFunc 130 vs).run Tryz.prog w = .ok (.enter 130 vs) w := by kernel_rfl
theorem Tryz.in131 (w : World) (vs : Array Value) : (callFunc 131 vs).run Tryz.prog w = .ok (.enter 131 vs) w := by kernel_rfl
theorem Tryz.in132 (w : World) (vs : Array Value) : (callFunc 132 vs).run Tryz.prog w = .ok (.enter 132 vs) w := by kernel_rfl
theorem Tryz.in133 (w : World) (vs : Array Value) : (callFunc 133 vs).run Tryz.prog w = .ok (.enter 133 vs) w := by kernel_rfl
theorem Tryz.in134 (w : World) (vs : Array Value) : (callFunc 134 vs).run Tryz.prog w = .ok (.enter 134 vs) w := by kernel_rfl
theorem Tryz.in135 (w : World) (vs : Array Value) : (callFunc 135 vs).run Tryz.prog w = .ok (.enter 135 vs) w := by kernel_rfl
theorem Tryz.in136 (w : World) (vs : Array Value) : (callFunc 136 vs).run Tryz.prog w = .ok (.enter 136 vs) w := by kernel_rfl
theorem Tryz.in75 (w : World) (vs : Array Value) : (callFunc 75 vs).run Tryz.prog w = .ok (.enter 75 vs) w := by kernel_rfl
theorem Tryz.in86 (w : World) (vs : Array Value) : (callFunc 86 vs).run Tryz.prog w = .ok (.enter 86 vs) w := by kernel_rfl
end Go.Proofs.YtdeiicldfgkidaaGreat
namespace Go.Proofs.YtdeiicldfgkidaaGreat
open Go.RowKit
set_option linter.unusedSimpArgs false

def wipe (i : Nat) (x : OpV) : OpV := if i = 0 then { x with key := { data := #[] } } else if i = 1 then { x with text := { data := #[] } } else if i = 2 then { x with n := 0 } else { x with node := z32, op := 0 }
def wipes (is : List Nat) (x : OpV) : OpV := is.foldl (fun x i => wipe i x) x
theorem wipes_next (is : List Nat) (t : Nat) (h : t < is.length) (x : OpV) : wipes (is.take (t + 1)) x = wipe (is.getD t 0) (wipes (is.take t) x) := by
 unfold wipes
 rw [List.take_succ_eq_append_getElem h, List.foldl_append]
 simp [List.getD_eq_getElem?_getD, h]
def WipePost (i g : Nat) (x : OpV) (w : World) (e : Ending) (w' : World) : Prop := e = .returned (.tuple #[]) ∧ Blk w' g 88 (opA (wipe i x)) ∧ Grown w w' fun k => k = g
theorem wipe0_any (g : Nat) (x : OpV) (w : World) (h : Blk w g 88 (opA x)) : Calls Tryz.prog 121 #[ptr g] w (WipePost 0 g x w) := by
 have c1 := h.c 1 (opA_1 x)
 have f1 := h.frozen 1
 have HB := Keep.mk (h.set 1 (.string { data := #[] }))
 rw [set_1] at HB
 clear h
 go_enter Tryz.func121, Tryz.ntmps121
 refine rgn ?_
 refine VlS (.pointer (some ⟨g, 0, none⟩)) ?_
 refine VlS (.pointer (some ⟨g, 0, none⟩)) ?_
 refine VlS (.pointer (some ⟨g, 1, none⟩)) ?_
 refine WL.cell (by kernel_rfl) (w.setCell ⟨g, 1, none⟩ (.string { data := #[] })) (by go_simp) ?_
 simp only [Act.put]
 refine WL.nil ?_
 go_end0
 exact ⟨rfl, HB.out, Grown.setCell w g 1 _ fun _ => rfl⟩
theorem wipe1_any (g : Nat) (x : OpV) (w : World) (h : Blk w g 88 (opA x)) : Calls Tryz.prog 126 #[ptr g] w (WipePost 1 g x w) := by
 have c1 := h.c 2 (opA_2 x)
 have f1 := h.frozen 2
 have HB := Keep.mk (h.set 2 (.string { data := #[] }))
 rw [set_2] at HB
 clear h
 go_enter Tryz.func126, Tryz.ntmps126
 refine rgn ?_
 refine VlS (.pointer (some ⟨g, 0, none⟩)) ?_
 refine VlS (.pointer (some ⟨g, 0, none⟩)) ?_
 refine VlS (.pointer (some ⟨g, 2, none⟩)) ?_
 refine WL.cell (by kernel_rfl) (w.setCell ⟨g, 2, none⟩ (.string { data := #[] })) (by go_simp) ?_
 simp only [Act.put]
 refine WL.nil ?_
 go_end0
 exact ⟨rfl, HB.out, Grown.setCell w g 2 _ fun _ => rfl⟩
theorem wipe2_any (g : Nat) (x : OpV) (w : World) (h : Blk w g 88 (opA x)) : Calls Tryz.prog 129 #[ptr g] w (WipePost 2 g x w) := by
 have c1 := h.c 3 (opA_3 x)
 have f1 := h.frozen 3
 have HB := Keep.mk (h.set 3 (.int .i64 0))
 rw [set_3] at HB
 clear h
 go_enter Tryz.func129, Tryz.ntmps129
 refine rgn ?_
 refine VlS (.pointer (some ⟨g, 0, none⟩)) ?_
 refine VlS (.pointer (some ⟨g, 0, none⟩)) ?_
 refine VlS (.pointer (some ⟨g, 3, none⟩)) ?_
 refine WL.cell (by kernel_rfl) (w.setCell ⟨g, 3, none⟩ (.int .i64 0)) (by go_simp) ?_
 simp only [Act.put]
 refine WL.nil ?_
 go_end0
 exact ⟨rfl, HB.out, Grown.setCell w g 3 _ fun _ => rfl⟩
theorem wipe3_any (g : Nat) (x : OpV) (w : World) (h : Blk w g 88 (opA x)) : Calls Tryz.prog 134 #[ptr g] w (WipePost 3 g x w) := by
 have HB := Keep.mk h
 clear h
 go_enter Tryz.func134, Tryz.ntmps134
 refine rgn ?_
 refine VlS (.pointer (some ⟨g, 0, none⟩)) ?_
 refine WL.bld (by kernel_rfl) 86 _ rfl [] (by simp) (idA z32 0) Tryz.built86 ?_
 simp only [Act.put, pqA, pqB, pqC]
 refine VlS (.pointer (some ⟨g, 0, none⟩)) ?_
 refine VlS (.pointer (some ⟨g, 4, none⟩)) ?_
 refine WL.part (by kernel_rfl) 86 (.tmp 5) (.tmp 3) rfl g 4 (idA z32 0) rfl rfl 88 (opA x) HB.out (Tryz.size86B _ _) (by rw [idA_size, opA_size]; decide) (idA_one _ _) _ (put_at x z32 0) ?_
 simp only [Act.put]
 refine WL.nil ?_
 go_end0
 exact ⟨rfl, HB.out.setRow _, Grown.setRow w g _ fun _ => rfl⟩
theorem FieldsAt.form {w : World} {v : Value} {is : List Nat} (h : FieldsAt w v is) : ∃ a c, v = .slice a is.length c := by
 rcases h with ⟨rfl, rfl⟩ | ⟨g, rfl, _⟩
 ·exact ⟨_, _, rfl⟩
 ·exact ⟨_, _, rfl⟩
theorem FieldsAt.below {w w' : World} {v : Value} {is : List Nat} (h : FieldsAt w v is) (hb : Below w.heap.size w w') : FieldsAt w' v is :=
 h.grown (Grown.below (S := fun _ => False) hb) fun _ _ h => h
theorem flatF_drop (is : List Nat) : ∀ t, (flatF is).toList.drop (t * 3) = (is.drop t).flatMap fun i => (fldA i).toList := by
 induction is with
 | nil => intro t; simp [flatF]
 | cons i is ih =>
  intro t
  cases t with
  | zero => simp [flatF]
  | succ t =>
   have := ih t
   simp only [flatF, List.flatMap_cons, List.drop_succ_cons] at this ⊢
   rw [← this, show (t + 1) * 3 = 3 + t * 3 by omega, ← List.drop_drop, List.drop_left' (by rw [Array.length_toList, fldA_size])]
theorem flat_range {w : World} {g : Nat} {is : List Nat} (h : Blk w g 182 (flatF is)) {t : Nat} (ht : t < is.length) : w.rangeAt g (t * 3) (fldA (is.getD t 0)).toList := fun j v hv => by
 rw [h.cell]
 have h3 : j < 3 := by have := (List.getElem?_eq_some_iff.1 hv).1; rw [Array.length_toList, fldA_size] at this; exact this
 have e : (flatF is)[t * 3 + j]? = ((flatF is).toList.drop (t * 3))[j]? := by rw [List.getElem?_drop, Array.getElem?_toList]
 rw [e, flatF_drop, List.drop_eq_getElem_cons ht, List.flatMap_cons, List.getElem?_append_left (by rw [Array.length_toList, fldA_size]; exact h3)]
 rw [show is[t] = is.getD t 0 by simp [List.getD_eq_getElem?_getD, ht]]
 exact hv
theorem FieldsAt.at {w : World} {a : Option Addr} {n c : Nat} {is : List Nat} (h : FieldsAt w (.slice a n c) is) {t : Nat} (ht : t < is.length) : ∃ g, a = some ⟨g, 0, none⟩ ∧ w.rangeAt g (0 + t * 3) (fldA (is.getD t 0)).toList := by
 rcases h with ⟨_, rfl⟩ | ⟨g, e, h2⟩
 ·simp at ht
 ·injection e with e1 e2 e3
  exact ⟨g, e1, by rw [Nat.zero_add]; exact flat_range h2 ht⟩
set_option maxRecDepth 8000 in
set_option maxHeartbeats 1000000 in
theorem other_any (x : OpV) (v : Value) (is : List Nat) (w : World) (hF : FieldsAt w v is) (hi : ∀ i ∈ is, i < 4) (hn : is.length ≤ 3) :
  Calls Tryz.prog 109 #[.agg (opA x), v] w fun e w' => e = .returned (.bool (!sm (wipes is { x with kind := 0 }) zeroOp)) ∧ Below w.heap.size w w' := by
 obtain ⟨va, vc, rfl⟩ := hF.form
 have HF := Keep.mk hF
 have Hi := Keep.mk hi
 have Hn := Keep.mk hn
 have HB := Keep.mk (Blk.new w 88 (opA x))
 have HW := Keep.mk (below_new w (.cells (opA x) 88))
 obtain ⟨w1, hw1⟩ : ∃ w1, Keep (w.alloc (.cells (opA x) 88) = w1) := ⟨_, ⟨rfl⟩⟩
 rw [hw1.out] at HB HW
 have Hw1 : Keep (w.heap.size < w1.heap.size) := ⟨HB.out.lt⟩
 obtain ⟨x0, hx0⟩ : ∃ x0, x0 = { x with kind := 0 } := ⟨_, rfl⟩
 rw [← hx0]
 clear hF hi hn
 go_enter Tryz.func109, Tryz.ntmps109
 refine wp_seq_k fun K1 hK1 => rgn ?_
 refine WL.box (by kernel_rfl) 88 (.tmp 0) rfl (opA x) rfl ?_
 rw [hw1.out]
 simp only [Act.put, pqA, pqB, pqC]
 refine VlS (.bool false) ?_
 refine WL.nil (hK1 _ _ ?_)
 refine wp_seq_k fun K2 hK2 => rgn ?_
 refine WL.row (by kernel_rfl) 88 (.tmp 2) rfl w.heap.size rfl 88 (opA x) _ HB.out Tryz.underlying88 rfl (Tryz.size88B x) ?_
 simp only [Act.put, pqA, pqB, pqC]
 refine WL.new (by kernel_rfl) 88 rfl _ Tryz.new88 ?_
 simp only [Act.put, pqA, pqB, pqC]
 refine WL.storeR (by kernel_rfl) 88 (.tmp 5) (.tmp 8) rfl w1.heap.size (opA x) rfl rfl 88 (opA zeroOp) (Blk.new w1 88 _) (Tryz.size88B x) (opA_sizes _ _) (opA_one x) ?_
 have HX := Keep.mk ((Blk.new w1 88 (opA zeroOp)).setRow (opA x))
 have HW2 : Keep (Below w.heap.size w ((w1.alloc (.cells (opA zeroOp) 88)).setRow w1.heap.size (opA x))) := ⟨below_setRow (HW.out.alloc HW.out.size _) HW.out.size _⟩
 generalize (w1.alloc (.cells (opA zeroOp) 88)).setRow w1.heap.size (opA x) = w2 at *
 have c0 := HX.out.c 0 (opA_0 x)
 have f0 := HX.out.frozen 0
 simp only [Act.put]
 refine WL.nil (hK2 _ _ ?_)
 refine wp_seq_k fun K3 hK3 => rgn ?_
 refine VlS (.pointer (some ⟨w1.heap.size, 0, none⟩)) ?_
 refine WL.cell (by kernel_rfl) (w2.setCell ⟨w1.heap.size, 0, none⟩ (.int .i64 0)) (by go_simp) ?_
 have hX0 : Blk (w2.setCell ⟨w1.heap.size, 0, none⟩ (.int .i64 0)) w1.heap.size 88 (opA x0) := by rw [hx0]; have h := HX.out.set 0 (.int .i64 0); rw [set_0] at h; exact h
 have hB0 : Below w.heap.size w (w2.setCell ⟨w1.heap.size, 0, none⟩ (.int .i64 0)) := HW2.out.setCell HW.out.size _
 have hF0 := HF.out.below hB0
 generalize w2.setCell ⟨w1.heap.size, 0, none⟩ (.int .i64 0) = w3 at *
 clear c0 f0
 simp only [Act.put]
 refine WL.nil (hK3 _ _ ?_)
 refine wp_seq_k fun K4 hK4 => ?_
 refine wp_seq_k fun K5 hK5 => rgn ?_
 refine VlS (.slice va is.length vc) ?_
 refine VlS (.int .i64 (is.length : Int)) ?_
 refine VlS (.int .i64 0) ?_
 refine WL.nil (hK5 _ _ ?_)
 refine wp_block ?_
 refine wp_loop (fun a wr => ∃ (t : Nat) (u7 u13 u14 u15 u16 u17 u18 u19 : Value), a = { tmps := #[.agg (opA x), .slice va is.length vc, .pointer (some ⟨w.heap.size, 0, none⟩), undef, .bool false, .pointer (some ⟨w1.heap.size, 0, none⟩), undef, u7, .agg (opA x), .pointer (some ⟨w1.heap.size, 0, none⟩), .slice va is.length vc, .int .i64 (is.length : Int), .int .i64 (t : Int), u13, u14, u15, u16, u17, u18, u19, undef, undef, undef, undef], defers := [] } ∧ t ≤ is.length ∧ Blk wr w1.heap.size 88 (opA (wipes (is.take t) x0)) ∧ FieldsAt wr (.slice va is.length vc) is ∧ Below w.heap.size w wr) (fun a _ => is.length - (intOf (a.tmps.getD 12 undef)).toNat) ⟨0, undef, undef, undef, undef, undef, undef, undef, undef, rfl, by omega, hX0, hF0, hB0⟩ ?_
 rintro a wr ⟨t, u7, u13, u14, u15, u16, u17, u18, u19, rfl, ht, hX, hF, hB⟩
 by_cases htl : t < is.length
 ·have htl' : (t : Int) < (is.length : Int) := by omega
  obtain ⟨gF, rfl, hr⟩ := hF.at htl
  have hi4 := Hi.out _ (show is.getD t 0 ∈ is by simp [List.getD_eq_getElem?_getD, htl])
  have hnx := wipes_next is t htl x0
  obtain ⟨y, hy⟩ : ∃ y, y = wipes (is.take t) x0 := ⟨_, rfl⟩
  rw [← hy] at hX hnx
  have hg : w1.heap.size < wr.heap.size := hX.lt
  have hn1 : IntKind.i64.wrap ((t : Int) + 1) = (t : Int) + 1 := by rw [IntKind.wrap_i64]; have := Hn.out; omega
  have HFl := Keep.mk hF
  have HXl := Keep.mk hX
  have HBl := Keep.mk hB
  clear hF hX hB
  generalize is.getD t 0 = i at *
  rcases (show i = 0 ∨ i = 1 ∨ i = 2 ∨ i = 3 by omega) with rfl | rfl | rfl | rfl
  ·refine wp_seq_k fun K6 hK6 => rgn ?_
   refine VlS (.bool true) ?_
   refine WL.nil (hK6 _ _ ?_)
   refine wp_seq_k fun K7 hK7 => ?_
   refine wp_cond_true rfl ?_
   refine wp_skip ?_
   refine hK7 _ _ ?_
   refine wp_seq_k fun K8 hK8 => ?_
   refine wp_block ?_
   refine wp_seq_k fun K9 hK9 => rgn ?_
   refine VlS (.pointer (some ⟨gF, 0 + t * 3, none⟩)) ?_
   refine WL.midA (by kernel_rfl) 182 (.tmp 14) rfl gF (0 + t * 3) rfl (fldA 0) _ hr Tryz.underlying182 rfl (Tryz.size182B 0) ?_
   simp only [Act.put, pqA, pqB, pqC]
   refine WL.new (by kernel_rfl) 182 rfl _ Tryz.new182 ?_
   simp only [Act.put, pqA, pqB, pqC]
   refine WL.storeR (by kernel_rfl) 182 (.tmp 7) (.tmp 15) rfl wr.heap.size (fldA 0) rfl rfl 182 noF (Blk.new wr 182 noF) (Tryz.size182B 0) (noF_sizes 0) (fldA_one 0) ?_
   have HN := Keep.mk ((Blk.new wr 182 noF).setRow (fldA 0))
   have HX2 := Keep.mk ((HXl.out.alloc (.cells noF 182)).setRow_ne (b' := wr.heap.size) (by omega) (fldA 0))
   have HG2 : Keep (Below wr.heap.size wr ((wr.alloc (.cells noF 182)).setRow wr.heap.size (fldA 0))) := ⟨below_setRow (below_new wr _) (Nat.le_refl _) _⟩
   generalize (wr.alloc (.cells noF 182)).setRow wr.heap.size (fldA 0) = wq at *
   have cf : wq.cell? ⟨wr.heap.size, 0, none⟩ = some (fnv 121) := HN.out.c 0 rfl
   unfold fnv at cf
   simp only [Act.put]
   refine WL.nil (hK9 _ _ ?_)
   refine rgn ?_
   refine VlS (.pointer (some ⟨wr.heap.size, 0, none⟩)) ?_
   refine VlS (.func (.func 121) #[] #[]) ?_
   refine WL.callV (by kernel_rfl) 121 (.tmp 17) _ _ rfl rfl Tryz.in121 #[ptr w1.heap.size] (by simp [Act.eval]) ?_
   refine (wipe0_any w1.heap.size y wq HX2.out).mono ?_
   rintro e w5 ⟨rfl, h5, h6⟩
   refine ⟨_, rfl, ?_⟩
   have HX5 := Keep.mk h5
   have HG5 : Keep (Grown wr w5 fun k => k = w1.heap.size) := ⟨(Grown.below HG2.out).trans h6⟩
   clear h5 h6 cf
   simp only [Act.put, pqA, pqB, pqC]
   refine WL.nil (hK8 _ _ ?_)
   refine rgn ?_
   refine VlS (.int .i64 ((t : Int) + 1)) ?_
   refine VlS (.int .i64 ((t : Int) + 1)) ?_
   refine WL.nil ?_
   refine ⟨⟨t + 1, .pointer (some ⟨wr.heap.size, 0, none⟩), .bool true, .pointer (some ⟨gF, 0 + t * 3, none⟩), .agg (fldA 0), .pointer (some ⟨wr.heap.size, 0, none⟩), .func (.func 121) #[] #[], .tuple #[], .int .i64 ((t : Int) + 1), rfl, by omega, by rw [hnx]; exact HX5.out, HFl.out.grown HG5.out ?_, ?_⟩, ?_⟩
   ·intro g hgb e; subst e; exact absurd (blk_type hgb HXl.out) (by decide)
   ·exact ⟨HG5.out.os.trans HBl.out.os, HG5.out.tape.trans HBl.out.tape, HG5.out.output.trans HBl.out.output, Nat.le_trans HBl.out.size HG5.out.size, fun j hj => by rw [HG5.out.block j (Nat.lt_of_lt_of_le hj HBl.out.size) (by have := Hw1.out; omega)]; exact HBl.out.block j hj⟩
   ·simp only [intOf]; show is.length - ((t : Int) + 1).toNat < is.length - ((t : Int)).toNat; omega
  ·refine wp_seq_k fun K10 hK10 => rgn ?_
   refine VlS (.bool true) ?_
   refine WL.nil (hK10 _ _ ?_)
   refine wp_seq_k fun K11 hK11 => ?_
   refine wp_cond_true rfl ?_
   refine wp_skip ?_
   refine hK11 _ _ ?_
   refine wp_seq_k fun K12 hK12 => ?_
   refine wp_block ?_
   refine wp_seq_k fun K13 hK13 => rgn ?_
   refine VlS (.pointer (some ⟨gF, 0 + t * 3, none⟩)) ?_
   refine WL.midA (by kernel_rfl) 182 (.tmp 14) rfl gF (0 + t * 3) rfl (fldA 1) _ hr Tryz.underlying182 rfl (Tryz.size182B 1) ?_
   simp only [Act.put, pqA, pqB, pqC]
   refine WL.new (by kernel_rfl) 182 rfl _ Tryz.new182 ?_
   simp only [Act.put, pqA, pqB, pqC]
   refine WL.storeR (by kernel_rfl) 182 (.tmp 7) (.tmp 15) rfl wr.heap.size (fldA 1) rfl rfl 182 noF (Blk.new wr 182 noF) (Tryz.size182B 1) (noF_sizes 1) (fldA_one 1) ?_
   have HN := Keep.mk ((Blk.new wr 182 noF).setRow (fldA 1))
   have HX2 := Keep.mk ((HXl.out.alloc (.cells noF 182)).setRow_ne (b' := wr.heap.size) (by omega) (fldA 1))
   have HG2 : Keep (Below wr.heap.size wr ((wr.alloc (.cells noF 182)).setRow wr.heap.size (fldA 1))) := ⟨below_setRow (below_new wr _) (Nat.le_refl _) _⟩
   generalize (wr.alloc (.cells noF 182)).setRow wr.heap.size (fldA 1) = wq at *
   have cf : wq.cell? ⟨wr.heap.size, 0, none⟩ = some (fnv 126) := HN.out.c 0 rfl
   unfold fnv at cf
   simp only [Act.put]
   refine WL.nil (hK13 _ _ ?_)
   refine rgn ?_
   refine VlS (.pointer (some ⟨wr.heap.size, 0, none⟩)) ?_
   refine VlS (.func (.func 126) #[] #[]) ?_
   refine WL.callV (by kernel_rfl) 126 (.tmp 17) _ _ rfl rfl Tryz.in126 #[ptr w1.heap.size] (by simp [Act.eval]) ?_
   refine (wipe1_any w1.heap.size y wq HX2.out).mono ?_
   rintro e w5 ⟨rfl, h5, h6⟩
   refine ⟨_, rfl, ?_⟩
   have HX5 := Keep.mk h5
   have HG5 : Keep (Grown wr w5 fun k => k = w1.heap.size) := ⟨(Grown.below HG2.out).trans h6⟩
   clear h5 h6 cf
   simp only [Act.put, pqA, pqB, pqC]
   refine WL.nil (hK12 _ _ ?_)
   refine rgn ?_
   refine VlS (.int .i64 ((t : Int) + 1)) ?_
   refine VlS (.int .i64 ((t : Int) + 1)) ?_
   refine WL.nil ?_
   refine ⟨⟨t + 1, .pointer (some ⟨wr.heap.size, 0, none⟩), .bool true, .pointer (some ⟨gF, 0 + t * 3, none⟩), .agg (fldA 1), .pointer (some ⟨wr.heap.size, 0, none⟩), .func (.func 126) #[] #[], .tuple #[], .int .i64 ((t : Int) + 1), rfl, by omega, by rw [hnx]; exact HX5.out, HFl.out.grown HG5.out ?_, ?_⟩, ?_⟩
   ·intro g hgb e; subst e; exact absurd (blk_type hgb HXl.out) (by decide)
   ·exact ⟨HG5.out.os.trans HBl.out.os, HG5.out.tape.trans HBl.out.tape, HG5.out.output.trans HBl.out.output, Nat.le_trans HBl.out.size HG5.out.size, fun j hj => by rw [HG5.out.block j (Nat.lt_of_lt_of_le hj HBl.out.size) (by have := Hw1.out; omega)]; exact HBl.out.block j hj⟩
   ·simp only [intOf]; show is.length - ((t : Int) + 1).toNat < is.length - ((t : Int)).toNat; omega
  ·refine wp_seq_k fun K14 hK14 => rgn ?_
   refine VlS (.bool true) ?_
   refine WL.nil (hK14 _ _ ?_)
   refine wp_seq_k fun K15 hK15 => ?_
   refine wp_cond_true rfl ?_
   refine wp_skip ?_
   refine hK15 _ _ ?_
   refine wp_seq_k fun K16 hK16 => ?_
   refine wp_block ?_
   refine wp_seq_k fun K17 hK17 => rgn ?_
   refine VlS (.pointer (some ⟨gF, 0 + t * 3, none⟩)) ?_
   refine WL.midA (by kernel_rfl) 182 (.tmp 14) rfl gF (0 + t * 3) rfl (fldA 2) _ hr Tryz.underlying182 rfl (Tryz.size182B 2) ?_
   simp only [Act.put, pqA, pqB, pqC]
   refine WL.new (by kernel_rfl) 182 rfl _ Tryz.new182 ?_
   simp only [Act.put, pqA, pqB, pqC]
   refine WL.storeR (by kernel_rfl) 182 (.tmp 7) (.tmp 15) rfl wr.heap.size (fldA 2) rfl rfl 182 noF (Blk.new wr 182 noF) (Tryz.size182B 2) (noF_sizes 2) (fldA_one 2) ?_
   have HN := Keep.mk ((Blk.new wr 182 noF).setRow (fldA 2))
   have HX2 := Keep.mk ((HXl.out.alloc (.cells noF 182)).setRow_ne (b' := wr.heap.size) (by omega) (fldA 2))
   have HG2 : Keep (Below wr.heap.size wr ((wr.alloc (.cells noF 182)).setRow wr.heap.size (fldA 2))) := ⟨below_setRow (below_new wr _) (Nat.le_refl _) _⟩
   generalize (wr.alloc (.cells noF 182)).setRow wr.heap.size (fldA 2) = wq at *
   have cf : wq.cell? ⟨wr.heap.size, 0, none⟩ = some (fnv 129) := HN.out.c 0 rfl
   unfold fnv at cf
   simp only [Act.put]
   refine WL.nil (hK17 _ _ ?_)
   refine rgn ?_
   refine VlS (.pointer (some ⟨wr.heap.size, 0, none⟩)) ?_
   refine VlS (.func (.func 129) #[] #[]) ?_
   refine WL.callV (by kernel_rfl) 129 (.tmp 17) _ _ rfl rfl Tryz.in129 #[ptr w1.heap.size] (by simp [Act.eval]) ?_
   refine (wipe2_any w1.heap.size y wq HX2.out).mono ?_
   rintro e w5 ⟨rfl, h5, h6⟩
   refine ⟨_, rfl, ?_⟩
   have HX5 := Keep.mk h5
   have HG5 : Keep (Grown wr w5 fun k => k = w1.heap.size) := ⟨(Grown.below HG2.out).trans h6⟩
   clear h5 h6 cf
   simp only [Act.put, pqA, pqB, pqC]
   refine WL.nil (hK16 _ _ ?_)
   refine rgn ?_
   refine VlS (.int .i64 ((t : Int) + 1)) ?_
   refine VlS (.int .i64 ((t : Int) + 1)) ?_
   refine WL.nil ?_
   refine ⟨⟨t + 1, .pointer (some ⟨wr.heap.size, 0, none⟩), .bool true, .pointer (some ⟨gF, 0 + t * 3, none⟩), .agg (fldA 2), .pointer (some ⟨wr.heap.size, 0, none⟩), .func (.func 129) #[] #[], .tuple #[], .int .i64 ((t : Int) + 1), rfl, by omega, by rw [hnx]; exact HX5.out, HFl.out.grown HG5.out ?_, ?_⟩, ?_⟩
   ·intro g hgb e; subst e; exact absurd (blk_type hgb HXl.out) (by decide)
   ·exact ⟨HG5.out.os.trans HBl.out.os, HG5.out.tape.trans HBl.out.tape, HG5.out.output.trans HBl.out.output, Nat.le_trans HBl.out.size HG5.out.size, fun j hj => by rw [HG5.out.block j (Nat.lt_of_lt_of_le hj HBl.out.size) (by have := Hw1.out; omega)]; exact HBl.out.block j hj⟩
   ·simp only [intOf]; show is.length - ((t : Int) + 1).toNat < is.length - ((t : Int)).toNat; omega
  ·refine wp_seq_k fun K18 hK18 => rgn ?_
   refine VlS (.bool true) ?_
   refine WL.nil (hK18 _ _ ?_)
   refine wp_seq_k fun K19 hK19 => ?_
   refine wp_cond_true rfl ?_
   refine wp_skip ?_
   refine hK19 _ _ ?_
   refine wp_seq_k fun K20 hK20 => ?_
   refine wp_block ?_
   refine wp_seq_k fun K21 hK21 => rgn ?_
   refine VlS (.pointer (some ⟨gF, 0 + t * 3, none⟩)) ?_
   refine WL.midA (by kernel_rfl) 182 (.tmp 14) rfl gF (0 + t * 3) rfl (fldA 3) _ hr Tryz.underlying182 rfl (Tryz.size182B 3) ?_
   simp only [Act.put, pqA, pqB, pqC]
   refine WL.new (by kernel_rfl) 182 rfl _ Tryz.new182 ?_
   simp only [Act.put, pqA, pqB, pqC]
   refine WL.storeR (by kernel_rfl) 182 (.tmp 7) (.tmp 15) rfl wr.heap.size (fldA 3) rfl rfl 182 noF (Blk.new wr 182 noF) (Tryz.size182B 3) (noF_sizes 3) (fldA_one 3) ?_
   have HN := Keep.mk ((Blk.new wr 182 noF).setRow (fldA 3))
   have HX2 := Keep.mk ((HXl.out.alloc (.cells noF 182)).setRow_ne (b' := wr.heap.size) (by omega) (fldA 3))
   have HG2 : Keep (Below wr.heap.size wr ((wr.alloc (.cells noF 182)).setRow wr.heap.size (fldA 3))) := ⟨below_setRow (below_new wr _) (Nat.le_refl _) _⟩
   generalize (wr.alloc (.cells noF 182)).setRow wr.heap.size (fldA 3) = wq at *
   have cf : wq.cell? ⟨wr.heap.size, 0, none⟩ = some (fnv 134) := HN.out.c 0 rfl
   unfold fnv at cf
   simp only [Act.put]
   refine WL.nil (hK21 _ _ ?_)
   refine rgn ?_
   refine VlS (.pointer (some ⟨wr.heap.size, 0, none⟩)) ?_
   refine VlS (.func (.func 134) #[] #[]) ?_
   refine WL.callV (by kernel_rfl) 134 (.tmp 17) _ _ rfl rfl Tryz.in134 #[ptr w1.heap.size] (by simp [Act.eval]) ?_
   refine (wipe3_any w1.heap.size y wq HX2.out).mono ?_
   rintro e w5 ⟨rfl, h5, h6⟩
   refine ⟨_, rfl, ?_⟩
   have HX5 := Keep.mk h5
   have HG5 : Keep (Grown wr w5 fun k => k = w1.heap.size) := ⟨(Grown.below HG2.out).trans h6⟩
   clear h5 h6 cf
   simp only [Act.put, pqA, pqB, pqC]
   refine WL.nil (hK20 _ _ ?_)
   refine rgn ?_
   refine VlS (.int .i64 ((t : Int) + 1)) ?_
   refine VlS (.int .i64 ((t : Int) + 1)) ?_
   refine WL.nil ?_
   refine ⟨⟨t + 1, .pointer (some ⟨wr.heap.size, 0, none⟩), .bool true, .pointer (some ⟨gF, 0 + t * 3, none⟩), .agg (fldA 3), .pointer (some ⟨wr.heap.size, 0, none⟩), .func (.func 134) #[] #[], .tuple #[], .int .i64 ((t : Int) + 1), rfl, by omega, by rw [hnx]; exact HX5.out, HFl.out.grown HG5.out ?_, ?_⟩, ?_⟩
   ·intro g hgb e; subst e; exact absurd (blk_type hgb HXl.out) (by decide)
   ·exact ⟨HG5.out.os.trans HBl.out.os, HG5.out.tape.trans HBl.out.tape, HG5.out.output.trans HBl.out.output, Nat.le_trans HBl.out.size HG5.out.size, fun j hj => by rw [HG5.out.block j (Nat.lt_of_lt_of_le hj HBl.out.size) (by have := Hw1.out; omega)]; exact HBl.out.block j hj⟩
   ·simp only [intOf]; show is.length - ((t : Int) + 1).toNat < is.length - ((t : Int)).toNat; omega
 ·obtain rfl : t = is.length := by omega
  have htl' : ¬ (is.length : Int) < (is.length : Int) := by omega
  rw [List.take_length] at hX
  obtain ⟨y, hy⟩ : ∃ y, y = wipes is x0 := ⟨_, rfl⟩
  rw [← hy] at hX ⊢
  refine wp_seq_k fun K22 hK22 => rgn ?_
  refine VlS (.bool false) ?_
  refine WL.nil (hK22 _ _ ?_)
  refine wp_seq_k fun K23 hK23 => ?_
  refine wp_cond_false rfl ?_
  refine wp_exit ?_
  refine hK4 _ _ ?_
  refine wp_seq_k fun K24 hK24 => rgn ?_
  refine WL.row (by kernel_rfl) 88 (.tmp 5) rfl w1.heap.size rfl 88 (opA y) _ hX Tryz.underlying88 rfl (Tryz.size88B y) ?_
  simp only [Act.put, pqA, pqB, pqC]
  refine WL.bld (by kernel_rfl) 88 _ rfl [] (by simp) (opA zeroOp) Tryz.built88 ?_
  simp only [Act.put, pqA, pqB, pqC]
  refine WL.callF (by kernel_rfl) 137 _ _ rfl Tryz.in137 #[.agg (opA y), .agg (opA zeroOp)] (by simp [Act.eval]) ?_
  refine (same_any y zeroOp wr).mono ?_
  rintro e w5 ⟨rfl, h5⟩
  refine ⟨_, rfl, ?_⟩
  simp only [Act.put, pqA, pqB, pqC]
  refine VlS (.bool (!sm y zeroOp)) ?_
  refine VlS (.bool (!sm y zeroOp)) ?_
  refine WL.nil (hK24 _ _ ?_)
  refine wp_ret ?_
  go_ret
  exact ⟨by rw [← hy]; rfl, hB.trans (h5.mono hB.size)⟩
end Go.Proofs.YtdeiicldfgkidaaGreat
