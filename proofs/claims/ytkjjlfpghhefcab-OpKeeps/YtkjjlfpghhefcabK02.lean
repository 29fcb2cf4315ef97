import Derived.Test.YtkjjlfpghhefcabK01
namespace Go.Proofs.Ytkjjlfpghhefcab
open Go.RowKit

theorem wpList_wanted {P : Program} {ops : Array Oper} {rest : List Oper} {o : Oper} {a : Act} {w : World} {Q : Exit → Act → World → Prop} (hw : Region.wanted o (yielded ops a.tmps) = true)
    (h : ∀ K : Act → World → Prop, (∀ a w, wpList P ops Q rest a w → K a w) → o.wp P a w K Q) : wpList P ops Q (o :: rest) a w :=
  wpList_step fun K hK => by rw [if_pos hw]; exact h K hK
theorem wpList_load_midG {P : Program} {ops : Array Oper} {rest : List Oper} {op : Oper} {a : Act} {w : World} {Q : Exit → Act → World → Prop} (hw : Region.wanted op (yielded ops a.tmps) = true) (ty : TypeId) (x : Operand) (ho : op.op = .load ty x)
    (b o : Nat) (hx : a.eval x = .pointer (some ⟨b, o, none⟩)) (cs : List Value) (d : TypeDesc) (hc : w.rangeAt b o cs)
    (hu : P.underlying ty = some d) (hd : d.isRow = true) (hi : (P.info? ty).map (·.size) = some cs.length)
    (h : wpList P ops Q rest (a.put op.dst (.agg cs.toArray)) w) : wpList P ops Q (op :: rest) a w :=
  wpList_wanted hw fun _ hK => wp_load_mid ty x ho b o hx cs d hc hu hd hi (hK _ _ h)

theorem wp_bldG {P : Program} {o : Oper} {a : Act} {w : World} {K : Act → World → Prop} {Q : Exit → Act → World → Prop} (t : TypeId) (parts : Array (Nat × Operand)) (ho : o.op = .build t parts)
    (cells : Array Value) (hf : P.built t (parts.map fun (i, x) => (i, a.eval x)).toList = some cells) (h : K (a.put o.dst (.agg cells)) w) : o.wp P a w K Q :=
  wp_build t parts ho (by rw [hf]; rfl) (by rw [hf]; exact h)

structure WL (P : Program) (ops : Array Oper) (Q : Exit → Act → World → Prop) (l : List Oper) (a : Act) (w : World) : Prop where
  out : wpList P ops Q l a w
theorem WL.skip {P : Program} {ops : Array Oper} {rest : List Oper} {o : Oper} {a : Act} {w : World} {Q : Exit → Act → World → Prop} (hw : Region.wanted o (yielded ops a.tmps) = false)
    (h : WL P ops Q rest (a.put o.dst undef) w) : WL P ops Q (o :: rest) a w :=
  ⟨wpList_step fun K hK => by rw [if_neg (by rw [hw]; simp)]; exact hK _ _ h.out⟩
theorem WL.val {P : Program} {ops : Array Oper} {rest : List Oper} {o : Oper} {a : Act} {w : World} {Q : Exit → Act → World → Prop} (hw : Region.wanted o (yielded ops a.tmps) = true) (v : Value)
    (hrun : (execOp a.eval o).run P w = .ok (.value v) w) (h : WL P ops Q rest (a.put o.dst v) w) : WL P ops Q (o :: rest) a w :=
  ⟨wpList_wanted hw fun _ hK => wp_val v hrun (hK _ _ h.out)⟩
theorem WL.nil {P : Program} {ops : Array Oper} {a : Act} {w : World} {Q : Exit → Act → World → Prop} (h : Q .normal a w) : WL P ops Q [] a w := ⟨h⟩
theorem WL.mid {P : Program} {ops : Array Oper} {rest : List Oper} {op : Oper} {a : Act} {w : World} {Q : Exit → Act → World → Prop} (hw : Region.wanted op (yielded ops a.tmps) = true) (ty : TypeId) (x : Operand) (ho : op.op = .load ty x)
    (b o : Nat) (hx : a.eval x = .pointer (some ⟨b, o, none⟩)) (cs : List Value) (d : TypeDesc) (hc : w.rangeAt b o cs)
    (hu : P.underlying ty = some d) (hd : d.isRow = true) (hi : (P.info? ty).map (·.size) = some cs.length)
    (h : WL P ops Q rest (a.put op.dst (.agg cs.toArray)) w) : WL P ops Q (op :: rest) a w :=
  ⟨wpList_wanted hw fun _ hK => wp_load_mid ty x ho b o hx cs d hc hu hd hi (hK _ _ h.out)⟩
theorem WL.call {P : Program} {ops : Array Oper} {rest : List Oper} {o : Oper} {a : Act} {w : World} {Q : Exit → Act → World → Prop} (hw : Region.wanted o (yielded ops a.tmps) = true)
    (h : ∀ K : Act → World → Prop, (∀ a w, WL P ops Q rest a w → K a w) → o.wp P a w K Q) : WL P ops Q (o :: rest) a w :=
  ⟨wpList_wanted hw fun K hK => h K fun a w h => hK a w h.out⟩
def cellV (k : Int) : Int := if k = 1 then 1 else if k = 2 then 1 else if k = 3 then 2 else if k = 4 then 2 else if k = 5 then 2 else if k = 6 then 3 else if k = 7 then 3 else if k = 8 then 4 else if k = 9 then 4 else 0

set_option maxRecDepth 8000 in
set_option maxHeartbeats 1000000 in
theorem cell_any (k : Int) (w : World) : Calls Try.prog 60 #[.int .i64 k] w fun e w' => e = .returned (.int .i64 (cellV k)) ∧ w' = w := by
  unfold cellV
  go_enter Try.func60, Try.ntmps60
  by_cases k1 : k = 1
  · subst k1
    go_wp2
    go_ret
    exact ⟨rfl, rfl⟩
  · rw [if_neg k1]
    by_cases k2 : k = 2
    · subst k2
      go_wp2
      go_ret
      exact ⟨rfl, rfl⟩
    · rw [if_neg k2]
      by_cases k3 : k = 3
      · subst k3
        go_wp2
        go_ret
        exact ⟨rfl, rfl⟩
      · rw [if_neg k3]
        by_cases k4 : k = 4
        · subst k4
          go_wp2
          go_ret
          exact ⟨rfl, rfl⟩
        · rw [if_neg k4]
          by_cases k5 : k = 5
          · subst k5
            go_wp2
            go_ret
            exact ⟨rfl, rfl⟩
          · rw [if_neg k5]
            by_cases k6 : k = 6
            · subst k6
              go_wp2
              go_ret
              exact ⟨rfl, rfl⟩
            · rw [if_neg k6]
              by_cases k7 : k = 7
              · subst k7
                go_wp2
                go_ret
                exact ⟨rfl, rfl⟩
              · rw [if_neg k7]
                by_cases k8 : k = 8
                · subst k8
                  go_wp2
                  go_ret
                  exact ⟨rfl, rfl⟩
                · rw [if_neg k8]
                  by_cases k9 : k = 9
                  · subst k9
                    go_wp2
                    go_ret
                    exact ⟨rfl, rfl⟩
                  · rw [if_neg k9]
                    go_wp2
                    go_ret
                    exact ⟨rfl, rfl⟩

theorem same_any (x y : OpV) (w : World) : Calls Try.prog 23 #[.agg (opA x), .agg (opA y)] w fun e w' => e = .returned (.bool (sm x y)) ∧ Below w.heap.size w w' := by
  have HX := Keep.mk ((Blk.new w 59 (opA x)).alloc (.cells (opA y) 59))
  have HY : Keep (Blk ((w.alloc (.cells (opA x) 59)).alloc (.cells (opA y) 59)) (w.heap.size + 1) 59 (opA y)) := ⟨by
    have h := Blk.new (w.alloc (.cells (opA x) 59)) 59 (opA y)
    simp only [World.size_alloc] at h
    exact h⟩
  have HB : Keep (Below w.heap.size w ((w.alloc (.cells (opA x) 59)).alloc (.cells (opA y) 59))) := ⟨(below_new w _).alloc (by simp) _⟩
  have he := run_eql33 x y
  go_enter Try.func23, Try.ntmps23
  go_wp2_with (first | (refine wpList_boxA rfl 59 (.tmp 0) rfl (opA x) rfl ?_; refine wpList_boxA rfl 59 (.tmp 1) rfl (opA y) rfl ?_) | (refine wpList_load_row rfl 59 (.tmp 2) rfl w.heap.size rfl 59 (opA x) (0, 0) _ HX.out Try.underlying59 rfl (Try.size59B x) ?_; refine wpList_load_row rfl 59 (.tmp 3) rfl (w.heap.size + 1) rfl 59 (opA y) (0, 0) _ HY.out Try.underlying59 rfl (Try.size59B y) ?_))
  go_ret
  exact ⟨rfl, HB.out⟩

def txt (k : Int) : Bool := k == 1 || k == 3 || k == 4 || k == 8
def hat (k : Int) : Bool := k == 8 || k == 9
set_option maxRecDepth 8000 in
set_option maxHeartbeats 1000000 in
theorem hasText_any (k : Int) (w : World) : Calls Try.prog 43 #[.int .i64 k] w fun e w' => e = .returned (.bool (txt k)) ∧ w' = w := by
  go_enter Try.func43, Try.ntmps43
  by_cases k1 : k = 1
  · subst k1
    go_wp2
    go_ret
    exact ⟨rfl, rfl⟩
  · by_cases k3 : k = 3
    · subst k3
      go_wp2
      go_ret
      exact ⟨rfl, rfl⟩
    · by_cases k4 : k = 4
      · subst k4
        go_wp2
        go_ret
        exact ⟨rfl, rfl⟩
      · by_cases k8 : k = 8
        · subst k8
          go_wp2
          go_ret
          exact ⟨rfl, rfl⟩
        · go_wp2
          go_ret
          exact ⟨rfl, rfl⟩
set_option maxRecDepth 8000 in
set_option maxHeartbeats 1000000 in
theorem hasAt_any (k : Int) (w : World) : Calls Try.prog 45 #[.int .i64 k] w fun e w' => e = .returned (.bool (hat k)) ∧ w' = w := by
  go_enter Try.func45, Try.ntmps45
  by_cases k8 : k = 8
  · subst k8
    go_wp2
    go_ret
    exact ⟨rfl, rfl⟩
  · by_cases k9 : k = 9
    · subst k9
      go_wp2
      go_ret
      exact ⟨rfl, rfl⟩
    · go_wp2
      go_ret
      exact ⟨rfl, rfl⟩
theorem run_eqlHL (c e : List Int) (w : World) : (binOp .eql 55 (.agg (bytesA 32 (hof c)).toList.toArray) (.agg (bytesA 32 (hof e)).toList.toArray)).run Try.prog w = .ok (.bool (nd c e)) w := by rw [Array.toArray_toList, Array.toArray_toList]; exact run_eqlH c e w
theorem run_eqlHZ (c e : List Int) (w : World) : (binOp .eql 55 (.agg (bytesA 32 (hof c)).toList.toArray) (.agg (bytesA 32 (hof e)))).run Try.prog w = .ok (.bool (nd c e)) w := by rw [Array.toArray_toList]; exact run_eqlH c e w
theorem idA_range {w : World} {g : Nat} {T : TypeId} {c : List Int} {o : Int} (h : Blk w g T (idA c o)) : w.rangeAt g 0 (bytesA 32 (hof c)).toList := fun j v hv => by
  rw [hl_bytesA, ← idL_node c o, List.getElem?_take] at hv
  split at hv
  · rw [Nat.zero_add, h.cell]; unfold idA; rw [List.getElem?_toArray]; exact hv
  · cases hv
theorem opA_range {w : World} {g : Nat} {T : TypeId} {x : OpV} (h : Blk w g T (opA x)) : w.rangeAt g 4 (idL x.node x.op) := fun j v hv => by
  rw [h.cell]; unfold opA; rw [List.getElem?_toArray, ← List.getElem?_drop, opL_at]; exact hv
theorem opA_nodes {w : World} {g : Nat} {T : TypeId} {x : OpV} (h : Blk w g T (opA x)) : w.rangeAt g 4 (bytesA 32 (hof x.node)).toList := fun j v hv => by
  rw [hl_bytesA, ← idL_node x.node x.op, List.getElem?_take] at hv
  split at hv
  · exact opA_range h j v hv
  · cases hv
theorem Try.size55L (c : List Int) : (Try.prog.info? 55).map (·.size) = some (bytesA 32 (hof c)).toList.length := by rw [Array.length_toList]; exact Try.size55B _
set_option maxRecDepth 8000 in
set_option maxHeartbeats 1000000 in
theorem zero_any (c : List Int) (o : Int) (w : World) : Calls Try.prog 62 #[.agg (idA c o)] w fun e w' => e = .returned (.bool (nd c z32 && o == 0)) ∧ Below w.heap.size w w' := by
  have HB := Keep.mk (Blk.new w 57 (idA c o))
  have HW := Keep.mk (below_new w (.cells (idA c o) 57))
  have c0 : (w.alloc (.cells (idA c o) 57)).cell? ⟨w.heap.size, 32, none⟩ = some (.int .i64 o) := by
    rw [HB.out.cell]; unfold idA; rw [List.getElem?_toArray]; exact idL_op c o
  have HR := Keep.mk (idA_range HB.out)
  have he := run_eqlHZ c z32
  have hs := Keep.mk (Try.size55L c)
  generalize nd c z32 = E at *
  generalize (bytesA 32 (hof c)).toList = cN at *
  obtain ⟨aY, hY⟩ : ∃ c, Keep (c = bytesA 32 (hof z32)) := ⟨_, ⟨rfl⟩⟩
  have hbY : Keep (Try.prog.built 55 [] = some aY) := ⟨by rw [hY.out]; exact Try.built55⟩
  rw [← hY.out] at he
  go_enter Try.func62, Try.ntmps62
  cases ho : (o == 0)
  · go_wp2_with (first | (refine wpList_boxA rfl 57 (.tmp 0) rfl (idA c o) rfl ?_))
    go_ret
    exact ⟨by rw [Bool.and_false]; rfl, HW.out⟩
  · go_wp2_with (first | (refine wpList_boxA rfl 57 (.tmp 0) rfl (idA c o) rfl ?_) | (refine wpList_load_midG (by rfl) 55 (.tmp 7) rfl w.heap.size 0 rfl cN _ HR.out Try.underlying55 rfl hs.out ?_; refine wpList_wanted (by rfl) fun K hK => ?_; refine wp_bldG 55 _ rfl aY (by simpa using hbY.out) (hK _ _ ?_)))
    go_ret
    exact ⟨by rw [Bool.and_true]; rfl, HW.out⟩

theorem sm_alt (x y : OpV) : sm x y = ((x.kind == y.kind) && ((x.key.toList == y.key.toList) && ((x.text.toList == y.text.toList) && ((x.n == y.n) && ((x.op == y.op) && nd x.node y.node))))) := by
  unfold sm
  rw [beq_toListBytes, beq_toListBytes, Bool.and_comm (nd x.node y.node)]
set_option maxRecDepth 8000 in
set_option maxHeartbeats 2000000 in
theorem rsame_any (x y : OpV) (w : World) : Calls Try.prog 24 #[.agg (opA x), .agg (opA y)] w fun e w' => e = .returned (.bool (sm x y)) ∧ Below w.heap.size w w' := by
  have HX := Keep.mk ((Blk.new w 59 (opA x)).alloc (.cells (opA y) 59))
  have HY : Keep (Blk ((w.alloc (.cells (opA x) 59)).alloc (.cells (opA y) 59)) (w.heap.size + 1) 59 (opA y)) := ⟨by
    have h := Blk.new (w.alloc (.cells (opA x) 59)) 59 (opA y)
    simp only [World.size_alloc] at h
    exact h⟩
  have HB : Keep (Below w.heap.size w ((w.alloc (.cells (opA x) 59)).alloc (.cells (opA y) 59))) := ⟨(below_new w _).alloc (by simp) _⟩
  have HA := Keep.mk (sm_alt x y)
  obtain ⟨w1, hw1⟩ : ∃ w1, Keep ((w.alloc (.cells (opA x) 59)).alloc (.cells (opA y) 59) = w1) := ⟨_, ⟨rfl⟩⟩
  rw [hw1.out] at HX HY HB
  have a0 : w1.cell? ⟨w.heap.size, 0, none⟩ = some (.int .i64 x.kind) := by rw [HX.out.cell, opA_0]
  have a1 : w1.cell? ⟨w.heap.size, 1, none⟩ = some (.string x.key) := by rw [HX.out.cell, opA_1]
  have a2 : w1.cell? ⟨w.heap.size, 2, none⟩ = some (.string x.text) := by rw [HX.out.cell, opA_2]
  have a3 : w1.cell? ⟨w.heap.size, 3, none⟩ = some (.int .i64 x.n) := by rw [HX.out.cell, opA_3]
  have a4 : w1.cell? ⟨w.heap.size, 36, none⟩ = some (.int .i64 x.op) := by rw [HX.out.cell, opA_36]
  have b0 : w1.cell? ⟨w.heap.size + 1, 0, none⟩ = some (.int .i64 y.kind) := by rw [HY.out.cell, opA_0]
  have b1 : w1.cell? ⟨w.heap.size + 1, 1, none⟩ = some (.string y.key) := by rw [HY.out.cell, opA_1]
  have b2 : w1.cell? ⟨w.heap.size + 1, 2, none⟩ = some (.string y.text) := by rw [HY.out.cell, opA_2]
  have b3 : w1.cell? ⟨w.heap.size + 1, 3, none⟩ = some (.int .i64 y.n) := by rw [HY.out.cell, opA_3]
  have b4 : w1.cell? ⟨w.heap.size + 1, 36, none⟩ = some (.int .i64 y.op) := by rw [HY.out.cell, opA_36]
  have HRx := Keep.mk (opA_nodes HX.out)
  have HRy := Keep.mk (opA_nodes HY.out)
  have he := run_eqlHL x.node y.node
  have hsx := Keep.mk (Try.size55L x.node)
  have hsy := Keep.mk (Try.size55L y.node)
  generalize nd x.node y.node = E at *
  generalize (bytesA 32 (hof x.node)).toList = cX at *
  generalize (bytesA 32 (hof y.node)).toList = cY at *
  generalize sm x y = R at *
  go_enter Try.func24, Try.ntmps24
  cases e0 : (x.kind == y.kind)
  · refine wp_seq_k fun K1 hK1 => ?_
    refine wp_region_list ?_
    refine wpList_boxA rfl 59 (.tmp 0) rfl (opA x) rfl ?_
    refine wpList_boxA rfl 59 (.tmp 1) rfl (opA y) rfl ?_
    rw [hw1.out]
    refine WL.out (WL.val (by kernel_rfl) (.bool false) (by go_simp) (WL.nil (hK1 _ _ ?_)))
    refine wp_seq_k fun K2 hK2 => ?_
    refine wp_region_list (WL.out ?_)
    refine WL.val (by kernel_rfl) (.pointer (some ⟨w.heap.size, 0, none⟩)) (by go_simp) ?_
    simp only [Act.put, List.setIfInBounds_toArray, List.set_cons_zero, List.set_cons_succ]
    refine WL.val (by kernel_rfl) (.int .i64 x.kind) (by go_simp) ?_
    simp only [Act.put, List.setIfInBounds_toArray, List.set_cons_zero, List.set_cons_succ]
    refine WL.val (by kernel_rfl) (.pointer (some ⟨w.heap.size + 1, 0, none⟩)) (by go_simp) ?_
    simp only [Act.put, List.setIfInBounds_toArray, List.set_cons_zero, List.set_cons_succ]
    refine WL.val (by kernel_rfl) (.int .i64 y.kind) (by go_simp) ?_
    simp only [Act.put, List.setIfInBounds_toArray, List.set_cons_zero, List.set_cons_succ]
    refine WL.val (by kernel_rfl) (.bool false) (by go_simp) ?_
    simp only [Act.put, List.setIfInBounds_toArray, List.set_cons_zero, List.set_cons_succ]
    refine WL.val (by kernel_rfl) (.bool false) (by go_simp) ?_
    simp only [Act.put, List.setIfInBounds_toArray, List.set_cons_zero, List.set_cons_succ]
    refine WL.skip (by kernel_rfl) ?_
    simp only [Act.put, List.setIfInBounds_toArray, List.set_cons_zero, List.set_cons_succ]
    refine WL.skip (by kernel_rfl) ?_
    simp only [Act.put, List.setIfInBounds_toArray, List.set_cons_zero, List.set_cons_succ]
    refine WL.skip (by kernel_rfl) ?_
    simp only [Act.put, List.setIfInBounds_toArray, List.set_cons_zero, List.set_cons_succ]
    refine WL.skip (by kernel_rfl) ?_
    simp only [Act.put, List.setIfInBounds_toArray, List.set_cons_zero, List.set_cons_succ]
    refine WL.skip (by kernel_rfl) ?_
    simp only [Act.put, List.setIfInBounds_toArray, List.set_cons_zero, List.set_cons_succ]
    refine WL.val (by kernel_rfl) (.bool false) (by go_simp) ?_
    simp only [Act.put, List.setIfInBounds_toArray, List.set_cons_zero, List.set_cons_succ]
    refine WL.val (by kernel_rfl) (.bool false) (by go_simp) ?_
    simp only [Act.put, List.setIfInBounds_toArray, List.set_cons_zero, List.set_cons_succ]
    refine WL.skip (by kernel_rfl) ?_
    simp only [Act.put, List.setIfInBounds_toArray, List.set_cons_zero, List.set_cons_succ]
    refine WL.skip (by kernel_rfl) ?_
    simp only [Act.put, List.setIfInBounds_toArray, List.set_cons_zero, List.set_cons_succ]
    refine WL.skip (by kernel_rfl) ?_
    simp only [Act.put, List.setIfInBounds_toArray, List.set_cons_zero, List.set_cons_succ]
    refine WL.skip (by kernel_rfl) ?_
    simp only [Act.put, List.setIfInBounds_toArray, List.set_cons_zero, List.set_cons_succ]
    refine WL.skip (by kernel_rfl) ?_
    simp only [Act.put, List.setIfInBounds_toArray, List.set_cons_zero, List.set_cons_succ]
    refine WL.val (by kernel_rfl) (.bool false) (by go_simp) ?_
    simp only [Act.put, List.setIfInBounds_toArray, List.set_cons_zero, List.set_cons_succ]
    refine WL.val (by kernel_rfl) (.bool false) (by go_simp) ?_
    simp only [Act.put, List.setIfInBounds_toArray, List.set_cons_zero, List.set_cons_succ]
    refine WL.skip (by kernel_rfl) ?_
    simp only [Act.put, List.setIfInBounds_toArray, List.set_cons_zero, List.set_cons_succ]
    refine WL.skip (by kernel_rfl) ?_
    simp only [Act.put, List.setIfInBounds_toArray, List.set_cons_zero, List.set_cons_succ]
    refine WL.skip (by kernel_rfl) ?_
    simp only [Act.put, List.setIfInBounds_toArray, List.set_cons_zero, List.set_cons_succ]
    refine WL.skip (by kernel_rfl) ?_
    simp only [Act.put, List.setIfInBounds_toArray, List.set_cons_zero, List.set_cons_succ]
    refine WL.skip (by kernel_rfl) ?_
    simp only [Act.put, List.setIfInBounds_toArray, List.set_cons_zero, List.set_cons_succ]
    refine WL.val (by kernel_rfl) (.bool false) (by go_simp) ?_
    simp only [Act.put, List.setIfInBounds_toArray, List.set_cons_zero, List.set_cons_succ]
    refine WL.val (by kernel_rfl) (.bool false) (by go_simp) ?_
    simp only [Act.put, List.setIfInBounds_toArray, List.set_cons_zero, List.set_cons_succ]
    refine WL.skip (by kernel_rfl) ?_
    simp only [Act.put, List.setIfInBounds_toArray, List.set_cons_zero, List.set_cons_succ]
    refine WL.skip (by kernel_rfl) ?_
    simp only [Act.put, List.setIfInBounds_toArray, List.set_cons_zero, List.set_cons_succ]
    refine WL.skip (by kernel_rfl) ?_
    simp only [Act.put, List.setIfInBounds_toArray, List.set_cons_zero, List.set_cons_succ]
    refine WL.skip (by kernel_rfl) ?_
    simp only [Act.put, List.setIfInBounds_toArray, List.set_cons_zero, List.set_cons_succ]
    refine WL.skip (by kernel_rfl) ?_
    simp only [Act.put, List.setIfInBounds_toArray, List.set_cons_zero, List.set_cons_succ]
    refine WL.skip (by kernel_rfl) ?_
    simp only [Act.put, List.setIfInBounds_toArray, List.set_cons_zero, List.set_cons_succ]
    refine WL.skip (by kernel_rfl) ?_
    simp only [Act.put, List.setIfInBounds_toArray, List.set_cons_zero, List.set_cons_succ]
    refine WL.val (by kernel_rfl) (.bool false) (by go_simp) ?_
    simp only [Act.put, List.setIfInBounds_toArray, List.set_cons_zero, List.set_cons_succ]
    refine WL.val (by kernel_rfl) (.bool false) (by go_simp) ?_
    simp only [Act.put, List.setIfInBounds_toArray, List.set_cons_zero, List.set_cons_succ]
    refine WL.skip (by kernel_rfl) ?_
    simp only [Act.put, List.setIfInBounds_toArray, List.set_cons_zero, List.set_cons_succ]
    refine WL.skip (by kernel_rfl) ?_
    simp only [Act.put, List.setIfInBounds_toArray, List.set_cons_zero, List.set_cons_succ]
    refine WL.skip (by kernel_rfl) ?_
    simp only [Act.put, List.setIfInBounds_toArray, List.set_cons_zero, List.set_cons_succ]
    refine WL.skip (by kernel_rfl) ?_
    simp only [Act.put, List.setIfInBounds_toArray, List.set_cons_zero, List.set_cons_succ]
    refine WL.skip (by kernel_rfl) ?_
    simp only [Act.put, List.setIfInBounds_toArray, List.set_cons_zero, List.set_cons_succ]
    refine WL.skip (by kernel_rfl) ?_
    simp only [Act.put, List.setIfInBounds_toArray, List.set_cons_zero, List.set_cons_succ]
    refine WL.skip (by kernel_rfl) ?_
    simp only [Act.put, List.setIfInBounds_toArray, List.set_cons_zero, List.set_cons_succ]
    refine WL.val (by kernel_rfl) (.bool false) (by go_simp) ?_
    simp only [Act.put, List.setIfInBounds_toArray, List.set_cons_zero, List.set_cons_succ]
    refine WL.val (by kernel_rfl) (.bool false) (by go_simp) ?_
    simp only [Act.put, List.setIfInBounds_toArray, List.set_cons_zero, List.set_cons_succ]
    refine WL.nil (hK2 _ _ ?_)
    go_wp2
    go_ret
    exact ⟨by rw [HA.out, e0]; rfl, HB.out⟩
  · cases e1 : (x.key.toList == y.key.toList)
    · refine wp_seq_k fun K1 hK1 => ?_
      refine wp_region_list ?_
      refine wpList_boxA rfl 59 (.tmp 0) rfl (opA x) rfl ?_
      refine wpList_boxA rfl 59 (.tmp 1) rfl (opA y) rfl ?_
      rw [hw1.out]
      refine WL.out (WL.val (by kernel_rfl) (.bool false) (by go_simp) (WL.nil (hK1 _ _ ?_)))
      refine wp_seq_k fun K2 hK2 => ?_
      refine wp_region_list (WL.out ?_)
      refine WL.val (by kernel_rfl) (.pointer (some ⟨w.heap.size, 0, none⟩)) (by go_simp) ?_
      simp only [Act.put, List.setIfInBounds_toArray, List.set_cons_zero, List.set_cons_succ]
      refine WL.val (by kernel_rfl) (.int .i64 x.kind) (by go_simp) ?_
      simp only [Act.put, List.setIfInBounds_toArray, List.set_cons_zero, List.set_cons_succ]
      refine WL.val (by kernel_rfl) (.pointer (some ⟨w.heap.size + 1, 0, none⟩)) (by go_simp) ?_
      simp only [Act.put, List.setIfInBounds_toArray, List.set_cons_zero, List.set_cons_succ]
      refine WL.val (by kernel_rfl) (.int .i64 y.kind) (by go_simp) ?_
      simp only [Act.put, List.setIfInBounds_toArray, List.set_cons_zero, List.set_cons_succ]
      refine WL.val (by kernel_rfl) (.bool true) (by go_simp) ?_
      simp only [Act.put, List.setIfInBounds_toArray, List.set_cons_zero, List.set_cons_succ]
      refine WL.val (by kernel_rfl) (.bool true) (by go_simp) ?_
      simp only [Act.put, List.setIfInBounds_toArray, List.set_cons_zero, List.set_cons_succ]
      refine WL.val (by kernel_rfl) (.pointer (some ⟨w.heap.size, 1, none⟩)) (by go_simp) ?_
      simp only [Act.put, List.setIfInBounds_toArray, List.set_cons_zero, List.set_cons_succ]
      refine WL.val (by kernel_rfl) (.string x.key) (by go_simp) ?_
      simp only [Act.put, List.setIfInBounds_toArray, List.set_cons_zero, List.set_cons_succ]
      refine WL.val (by kernel_rfl) (.pointer (some ⟨w.heap.size + 1, 1, none⟩)) (by go_simp) ?_
      simp only [Act.put, List.setIfInBounds_toArray, List.set_cons_zero, List.set_cons_succ]
      refine WL.val (by kernel_rfl) (.string y.key) (by go_simp) ?_
      simp only [Act.put, List.setIfInBounds_toArray, List.set_cons_zero, List.set_cons_succ]
      refine WL.val (by kernel_rfl) (.bool false) (by go_simp) ?_
      simp only [Act.put, List.setIfInBounds_toArray, List.set_cons_zero, List.set_cons_succ]
      refine WL.val (by kernel_rfl) (.bool false) (by go_simp) ?_
      simp only [Act.put, List.setIfInBounds_toArray, List.set_cons_zero, List.set_cons_succ]
      refine WL.val (by kernel_rfl) (.bool false) (by go_simp) ?_
      simp only [Act.put, List.setIfInBounds_toArray, List.set_cons_zero, List.set_cons_succ]
      refine WL.skip (by kernel_rfl) ?_
      simp only [Act.put, List.setIfInBounds_toArray, List.set_cons_zero, List.set_cons_succ]
      refine WL.skip (by kernel_rfl) ?_
      simp only [Act.put, List.setIfInBounds_toArray, List.set_cons_zero, List.set_cons_succ]
      refine WL.skip (by kernel_rfl) ?_
      simp only [Act.put, List.setIfInBounds_toArray, List.set_cons_zero, List.set_cons_succ]
      refine WL.skip (by kernel_rfl) ?_
      simp only [Act.put, List.setIfInBounds_toArray, List.set_cons_zero, List.set_cons_succ]
      refine WL.skip (by kernel_rfl) ?_
      simp only [Act.put, List.setIfInBounds_toArray, List.set_cons_zero, List.set_cons_succ]
      refine WL.val (by kernel_rfl) (.bool false) (by go_simp) ?_
      simp only [Act.put, List.setIfInBounds_toArray, List.set_cons_zero, List.set_cons_succ]
      refine WL.val (by kernel_rfl) (.bool false) (by go_simp) ?_
      simp only [Act.put, List.setIfInBounds_toArray, List.set_cons_zero, List.set_cons_succ]
      refine WL.skip (by kernel_rfl) ?_
      simp only [Act.put, List.setIfInBounds_toArray, List.set_cons_zero, List.set_cons_succ]
      refine WL.skip (by kernel_rfl) ?_
      simp only [Act.put, List.setIfInBounds_toArray, List.set_cons_zero, List.set_cons_succ]
      refine WL.skip (by kernel_rfl) ?_
      simp only [Act.put, List.setIfInBounds_toArray, List.set_cons_zero, List.set_cons_succ]
      refine WL.skip (by kernel_rfl) ?_
      simp only [Act.put, List.setIfInBounds_toArray, List.set_cons_zero, List.set_cons_succ]
      refine WL.skip (by kernel_rfl) ?_
      simp only [Act.put, List.setIfInBounds_toArray, List.set_cons_zero, List.set_cons_succ]
      refine WL.val (by kernel_rfl) (.bool false) (by go_simp) ?_
      simp only [Act.put, List.setIfInBounds_toArray, List.set_cons_zero, List.set_cons_succ]
      refine WL.val (by kernel_rfl) (.bool false) (by go_simp) ?_
      simp only [Act.put, List.setIfInBounds_toArray, List.set_cons_zero, List.set_cons_succ]
      refine WL.skip (by kernel_rfl) ?_
      simp only [Act.put, List.setIfInBounds_toArray, List.set_cons_zero, List.set_cons_succ]
      refine WL.skip (by kernel_rfl) ?_
      simp only [Act.put, List.setIfInBounds_toArray, List.set_cons_zero, List.set_cons_succ]
      refine WL.skip (by kernel_rfl) ?_
      simp only [Act.put, List.setIfInBounds_toArray, List.set_cons_zero, List.set_cons_succ]
      refine WL.skip (by kernel_rfl) ?_
      simp only [Act.put, List.setIfInBounds_toArray, List.set_cons_zero, List.set_cons_succ]
      refine WL.skip (by kernel_rfl) ?_
      simp only [Act.put, List.setIfInBounds_toArray, List.set_cons_zero, List.set_cons_succ]
      refine WL.skip (by kernel_rfl) ?_
      simp only [Act.put, List.setIfInBounds_toArray, List.set_cons_zero, List.set_cons_succ]
      refine WL.skip (by kernel_rfl) ?_
      simp only [Act.put, List.setIfInBounds_toArray, List.set_cons_zero, List.set_cons_succ]
      refine WL.val (by kernel_rfl) (.bool false) (by go_simp) ?_
      simp only [Act.put, List.setIfInBounds_toArray, List.set_cons_zero, List.set_cons_succ]
      refine WL.val (by kernel_rfl) (.bool false) (by go_simp) ?_
      simp only [Act.put, List.setIfInBounds_toArray, List.set_cons_zero, List.set_cons_succ]
      refine WL.skip (by kernel_rfl) ?_
      simp only [Act.put, List.setIfInBounds_toArray, List.set_cons_zero, List.set_cons_succ]
      refine WL.skip (by kernel_rfl) ?_
      simp only [Act.put, List.setIfInBounds_toArray, List.set_cons_zero, List.set_cons_succ]
      refine WL.skip (by kernel_rfl) ?_
      simp only [Act.put, List.setIfInBounds_toArray, List.set_cons_zero, List.set_cons_succ]
      refine WL.skip (by kernel_rfl) ?_
      simp only [Act.put, List.setIfInBounds_toArray, List.set_cons_zero, List.set_cons_succ]
      refine WL.skip (by kernel_rfl) ?_
      simp only [Act.put, List.setIfInBounds_toArray, List.set_cons_zero, List.set_cons_succ]
      refine WL.skip (by kernel_rfl) ?_
      simp only [Act.put, List.setIfInBounds_toArray, List.set_cons_zero, List.set_cons_succ]
      refine WL.skip (by kernel_rfl) ?_
      simp only [Act.put, List.setIfInBounds_toArray, List.set_cons_zero, List.set_cons_succ]
      refine WL.val (by kernel_rfl) (.bool false) (by go_simp) ?_
      simp only [Act.put, List.setIfInBounds_toArray, List.set_cons_zero, List.set_cons_succ]
      refine WL.val (by kernel_rfl) (.bool false) (by go_simp) ?_
      simp only [Act.put, List.setIfInBounds_toArray, List.set_cons_zero, List.set_cons_succ]
      refine WL.nil (hK2 _ _ ?_)
      go_wp2
      go_ret
      exact ⟨by rw [HA.out, e0, e1]; rfl, HB.out⟩
    · cases e2 : (x.text.toList == y.text.toList)
      · refine wp_seq_k fun K1 hK1 => ?_
        refine wp_region_list ?_
        refine wpList_boxA rfl 59 (.tmp 0) rfl (opA x) rfl ?_
        refine wpList_boxA rfl 59 (.tmp 1) rfl (opA y) rfl ?_
        rw [hw1.out]
        refine WL.out (WL.val (by kernel_rfl) (.bool false) (by go_simp) (WL.nil (hK1 _ _ ?_)))
        refine wp_seq_k fun K2 hK2 => ?_
        refine wp_region_list (WL.out ?_)
        refine WL.val (by kernel_rfl) (.pointer (some ⟨w.heap.size, 0, none⟩)) (by go_simp) ?_
        simp only [Act.put, List.setIfInBounds_toArray, List.set_cons_zero, List.set_cons_succ]
        refine WL.val (by kernel_rfl) (.int .i64 x.kind) (by go_simp) ?_
        simp only [Act.put, List.setIfInBounds_toArray, List.set_cons_zero, List.set_cons_succ]
        refine WL.val (by kernel_rfl) (.pointer (some ⟨w.heap.size + 1, 0, none⟩)) (by go_simp) ?_
        simp only [Act.put, List.setIfInBounds_toArray, List.set_cons_zero, List.set_cons_succ]
        refine WL.val (by kernel_rfl) (.int .i64 y.kind) (by go_simp) ?_
        simp only [Act.put, List.setIfInBounds_toArray, List.set_cons_zero, List.set_cons_succ]
        refine WL.val (by kernel_rfl) (.bool true) (by go_simp) ?_
        simp only [Act.put, List.setIfInBounds_toArray, List.set_cons_zero, List.set_cons_succ]
        refine WL.val (by kernel_rfl) (.bool true) (by go_simp) ?_
        simp only [Act.put, List.setIfInBounds_toArray, List.set_cons_zero, List.set_cons_succ]
        refine WL.val (by kernel_rfl) (.pointer (some ⟨w.heap.size, 1, none⟩)) (by go_simp) ?_
        simp only [Act.put, List.setIfInBounds_toArray, List.set_cons_zero, List.set_cons_succ]
        refine WL.val (by kernel_rfl) (.string x.key) (by go_simp) ?_
        simp only [Act.put, List.setIfInBounds_toArray, List.set_cons_zero, List.set_cons_succ]
        refine WL.val (by kernel_rfl) (.pointer (some ⟨w.heap.size + 1, 1, none⟩)) (by go_simp) ?_
        simp only [Act.put, List.setIfInBounds_toArray, List.set_cons_zero, List.set_cons_succ]
        refine WL.val (by kernel_rfl) (.string y.key) (by go_simp) ?_
        simp only [Act.put, List.setIfInBounds_toArray, List.set_cons_zero, List.set_cons_succ]
        refine WL.val (by kernel_rfl) (.bool true) (by go_simp) ?_
        simp only [Act.put, List.setIfInBounds_toArray, List.set_cons_zero, List.set_cons_succ]
        refine WL.val (by kernel_rfl) (.bool true) (by go_simp) ?_
        simp only [Act.put, List.setIfInBounds_toArray, List.set_cons_zero, List.set_cons_succ]
        refine WL.val (by kernel_rfl) (.bool true) (by go_simp) ?_
        simp only [Act.put, List.setIfInBounds_toArray, List.set_cons_zero, List.set_cons_succ]
        refine WL.val (by kernel_rfl) (.pointer (some ⟨w.heap.size, 2, none⟩)) (by go_simp) ?_
        simp only [Act.put, List.setIfInBounds_toArray, List.set_cons_zero, List.set_cons_succ]
        refine WL.val (by kernel_rfl) (.string x.text) (by go_simp) ?_
        simp only [Act.put, List.setIfInBounds_toArray, List.set_cons_zero, List.set_cons_succ]
        refine WL.val (by kernel_rfl) (.pointer (some ⟨w.heap.size + 1, 2, none⟩)) (by go_simp) ?_
        simp only [Act.put, List.setIfInBounds_toArray, List.set_cons_zero, List.set_cons_succ]
        refine WL.val (by kernel_rfl) (.string y.text) (by go_simp) ?_
        simp only [Act.put, List.setIfInBounds_toArray, List.set_cons_zero, List.set_cons_succ]
        refine WL.val (by kernel_rfl) (.bool false) (by go_simp) ?_
        simp only [Act.put, List.setIfInBounds_toArray, List.set_cons_zero, List.set_cons_succ]
        refine WL.val (by kernel_rfl) (.bool false) (by go_simp) ?_
        simp only [Act.put, List.setIfInBounds_toArray, List.set_cons_zero, List.set_cons_succ]
        refine WL.val (by kernel_rfl) (.bool false) (by go_simp) ?_
        simp only [Act.put, List.setIfInBounds_toArray, List.set_cons_zero, List.set_cons_succ]
        refine WL.skip (by kernel_rfl) ?_
        simp only [Act.put, List.setIfInBounds_toArray, List.set_cons_zero, List.set_cons_succ]
        refine WL.skip (by kernel_rfl) ?_
        simp only [Act.put, List.setIfInBounds_toArray, List.set_cons_zero, List.set_cons_succ]
        refine WL.skip (by kernel_rfl) ?_
        simp only [Act.put, List.setIfInBounds_toArray, List.set_cons_zero, List.set_cons_succ]
        refine WL.skip (by kernel_rfl) ?_
        simp only [Act.put, List.setIfInBounds_toArray, List.set_cons_zero, List.set_cons_succ]
        refine WL.skip (by kernel_rfl) ?_
        simp only [Act.put, List.setIfInBounds_toArray, List.set_cons_zero, List.set_cons_succ]
        refine WL.val (by kernel_rfl) (.bool false) (by go_simp) ?_
        simp only [Act.put, List.setIfInBounds_toArray, List.set_cons_zero, List.set_cons_succ]
        refine WL.val (by kernel_rfl) (.bool false) (by go_simp) ?_
        simp only [Act.put, List.setIfInBounds_toArray, List.set_cons_zero, List.set_cons_succ]
        refine WL.skip (by kernel_rfl) ?_
        simp only [Act.put, List.setIfInBounds_toArray, List.set_cons_zero, List.set_cons_succ]
        refine WL.skip (by kernel_rfl) ?_
        simp only [Act.put, List.setIfInBounds_toArray, List.set_cons_zero, List.set_cons_succ]
        refine WL.skip (by kernel_rfl) ?_
        simp only [Act.put, List.setIfInBounds_toArray, List.set_cons_zero, List.set_cons_succ]
        refine WL.skip (by kernel_rfl) ?_
        simp only [Act.put, List.setIfInBounds_toArray, List.set_cons_zero, List.set_cons_succ]
        refine WL.skip (by kernel_rfl) ?_
        simp only [Act.put, List.setIfInBounds_toArray, List.set_cons_zero, List.set_cons_succ]
        refine WL.skip (by kernel_rfl) ?_
        simp only [Act.put, List.setIfInBounds_toArray, List.set_cons_zero, List.set_cons_succ]
        refine WL.skip (by kernel_rfl) ?_
        simp only [Act.put, List.setIfInBounds_toArray, List.set_cons_zero, List.set_cons_succ]
        refine WL.val (by kernel_rfl) (.bool false) (by go_simp) ?_
        simp only [Act.put, List.setIfInBounds_toArray, List.set_cons_zero, List.set_cons_succ]
        refine WL.val (by kernel_rfl) (.bool false) (by go_simp) ?_
        simp only [Act.put, List.setIfInBounds_toArray, List.set_cons_zero, List.set_cons_succ]
        refine WL.skip (by kernel_rfl) ?_
        simp only [Act.put, List.setIfInBounds_toArray, List.set_cons_zero, List.set_cons_succ]
        refine WL.skip (by kernel_rfl) ?_
        simp only [Act.put, List.setIfInBounds_toArray, List.set_cons_zero, List.set_cons_succ]
        refine WL.skip (by kernel_rfl) ?_
        simp only [Act.put, List.setIfInBounds_toArray, List.set_cons_zero, List.set_cons_succ]
        refine WL.skip (by kernel_rfl) ?_
        simp only [Act.put, List.setIfInBounds_toArray, List.set_cons_zero, List.set_cons_succ]
        refine WL.skip (by kernel_rfl) ?_
        simp only [Act.put, List.setIfInBounds_toArray, List.set_cons_zero, List.set_cons_succ]
        refine WL.skip (by kernel_rfl) ?_
        simp only [Act.put, List.setIfInBounds_toArray, List.set_cons_zero, List.set_cons_succ]
        refine WL.skip (by kernel_rfl) ?_
        simp only [Act.put, List.setIfInBounds_toArray, List.set_cons_zero, List.set_cons_succ]
        refine WL.val (by kernel_rfl) (.bool false) (by go_simp) ?_
        simp only [Act.put, List.setIfInBounds_toArray, List.set_cons_zero, List.set_cons_succ]
        refine WL.val (by kernel_rfl) (.bool false) (by go_simp) ?_
        simp only [Act.put, List.setIfInBounds_toArray, List.set_cons_zero, List.set_cons_succ]
        refine WL.nil (hK2 _ _ ?_)
        go_wp2
        go_ret
        exact ⟨by rw [HA.out, e0, e1, e2]; rfl, HB.out⟩
      · cases e3 : (x.n == y.n)
        · refine wp_seq_k fun K1 hK1 => ?_
          refine wp_region_list ?_
          refine wpList_boxA rfl 59 (.tmp 0) rfl (opA x) rfl ?_
          refine wpList_boxA rfl 59 (.tmp 1) rfl (opA y) rfl ?_
          rw [hw1.out]
          refine WL.out (WL.val (by kernel_rfl) (.bool false) (by go_simp) (WL.nil (hK1 _ _ ?_)))
          refine wp_seq_k fun K2 hK2 => ?_
          refine wp_region_list (WL.out ?_)
          refine WL.val (by kernel_rfl) (.pointer (some ⟨w.heap.size, 0, none⟩)) (by go_simp) ?_
          simp only [Act.put, List.setIfInBounds_toArray, List.set_cons_zero, List.set_cons_succ]
          refine WL.val (by kernel_rfl) (.int .i64 x.kind) (by go_simp) ?_
          simp only [Act.put, List.setIfInBounds_toArray, List.set_cons_zero, List.set_cons_succ]
          refine WL.val (by kernel_rfl) (.pointer (some ⟨w.heap.size + 1, 0, none⟩)) (by go_simp) ?_
          simp only [Act.put, List.setIfInBounds_toArray, List.set_cons_zero, List.set_cons_succ]
          refine WL.val (by kernel_rfl) (.int .i64 y.kind) (by go_simp) ?_
          simp only [Act.put, List.setIfInBounds_toArray, List.set_cons_zero, List.set_cons_succ]
          refine WL.val (by kernel_rfl) (.bool true) (by go_simp) ?_
          simp only [Act.put, List.setIfInBounds_toArray, List.set_cons_zero, List.set_cons_succ]
          refine WL.val (by kernel_rfl) (.bool true) (by go_simp) ?_
          simp only [Act.put, List.setIfInBounds_toArray, List.set_cons_zero, List.set_cons_succ]
          refine WL.val (by kernel_rfl) (.pointer (some ⟨w.heap.size, 1, none⟩)) (by go_simp) ?_
          simp only [Act.put, List.setIfInBounds_toArray, List.set_cons_zero, List.set_cons_succ]
          refine WL.val (by kernel_rfl) (.string x.key) (by go_simp) ?_
          simp only [Act.put, List.setIfInBounds_toArray, List.set_cons_zero, List.set_cons_succ]
          refine WL.val (by kernel_rfl) (.pointer (some ⟨w.heap.size + 1, 1, none⟩)) (by go_simp) ?_
          simp only [Act.put, List.setIfInBounds_toArray, List.set_cons_zero, List.set_cons_succ]
          refine WL.val (by kernel_rfl) (.string y.key) (by go_simp) ?_
          simp only [Act.put, List.setIfInBounds_toArray, List.set_cons_zero, List.set_cons_succ]
          refine WL.val (by kernel_rfl) (.bool true) (by go_simp) ?_
          simp only [Act.put, List.setIfInBounds_toArray, List.set_cons_zero, List.set_cons_succ]
          refine WL.val (by kernel_rfl) (.bool true) (by go_simp) ?_
          simp only [Act.put, List.setIfInBounds_toArray, List.set_cons_zero, List.set_cons_succ]
          refine WL.val (by kernel_rfl) (.bool true) (by go_simp) ?_
          simp only [Act.put, List.setIfInBounds_toArray, List.set_cons_zero, List.set_cons_succ]
          refine WL.val (by kernel_rfl) (.pointer (some ⟨w.heap.size, 2, none⟩)) (by go_simp) ?_
          simp only [Act.put, List.setIfInBounds_toArray, List.set_cons_zero, List.set_cons_succ]
          refine WL.val (by kernel_rfl) (.string x.text) (by go_simp) ?_
          simp only [Act.put, List.setIfInBounds_toArray, List.set_cons_zero, List.set_cons_succ]
          refine WL.val (by kernel_rfl) (.pointer (some ⟨w.heap.size + 1, 2, none⟩)) (by go_simp) ?_
          simp only [Act.put, List.setIfInBounds_toArray, List.set_cons_zero, List.set_cons_succ]
          refine WL.val (by kernel_rfl) (.string y.text) (by go_simp) ?_
          simp only [Act.put, List.setIfInBounds_toArray, List.set_cons_zero, List.set_cons_succ]
          refine WL.val (by kernel_rfl) (.bool true) (by go_simp) ?_
          simp only [Act.put, List.setIfInBounds_toArray, List.set_cons_zero, List.set_cons_succ]
          refine WL.val (by kernel_rfl) (.bool true) (by go_simp) ?_
          simp only [Act.put, List.setIfInBounds_toArray, List.set_cons_zero, List.set_cons_succ]
          refine WL.val (by kernel_rfl) (.bool true) (by go_simp) ?_
          simp only [Act.put, List.setIfInBounds_toArray, List.set_cons_zero, List.set_cons_succ]
          refine WL.val (by kernel_rfl) (.pointer (some ⟨w.heap.size, 3, none⟩)) (by go_simp) ?_
          simp only [Act.put, List.setIfInBounds_toArray, List.set_cons_zero, List.set_cons_succ]
          refine WL.val (by kernel_rfl) (.int .i64 x.n) (by go_simp) ?_
          simp only [Act.put, List.setIfInBounds_toArray, List.set_cons_zero, List.set_cons_succ]
          refine WL.val (by kernel_rfl) (.pointer (some ⟨w.heap.size + 1, 3, none⟩)) (by go_simp) ?_
          simp only [Act.put, List.setIfInBounds_toArray, List.set_cons_zero, List.set_cons_succ]
          refine WL.val (by kernel_rfl) (.int .i64 y.n) (by go_simp) ?_
          simp only [Act.put, List.setIfInBounds_toArray, List.set_cons_zero, List.set_cons_succ]
          refine WL.val (by kernel_rfl) (.bool false) (by go_simp) ?_
          simp only [Act.put, List.setIfInBounds_toArray, List.set_cons_zero, List.set_cons_succ]
          refine WL.val (by kernel_rfl) (.bool false) (by go_simp) ?_
          simp only [Act.put, List.setIfInBounds_toArray, List.set_cons_zero, List.set_cons_succ]
          refine WL.val (by kernel_rfl) (.bool false) (by go_simp) ?_
          simp only [Act.put, List.setIfInBounds_toArray, List.set_cons_zero, List.set_cons_succ]
          refine WL.skip (by kernel_rfl) ?_
          simp only [Act.put, List.setIfInBounds_toArray, List.set_cons_zero, List.set_cons_succ]
          refine WL.skip (by kernel_rfl) ?_
          simp only [Act.put, List.setIfInBounds_toArray, List.set_cons_zero, List.set_cons_succ]
          refine WL.skip (by kernel_rfl) ?_
          simp only [Act.put, List.setIfInBounds_toArray, List.set_cons_zero, List.set_cons_succ]
          refine WL.skip (by kernel_rfl) ?_
          simp only [Act.put, List.setIfInBounds_toArray, List.set_cons_zero, List.set_cons_succ]
          refine WL.skip (by kernel_rfl) ?_
          simp only [Act.put, List.setIfInBounds_toArray, List.set_cons_zero, List.set_cons_succ]
          refine WL.skip (by kernel_rfl) ?_
          simp only [Act.put, List.setIfInBounds_toArray, List.set_cons_zero, List.set_cons_succ]
          refine WL.skip (by kernel_rfl) ?_
          simp only [Act.put, List.setIfInBounds_toArray, List.set_cons_zero, List.set_cons_succ]
          refine WL.val (by kernel_rfl) (.bool false) (by go_simp) ?_
          simp only [Act.put, List.setIfInBounds_toArray, List.set_cons_zero, List.set_cons_succ]
          refine WL.val (by kernel_rfl) (.bool false) (by go_simp) ?_
          simp only [Act.put, List.setIfInBounds_toArray, List.set_cons_zero, List.set_cons_succ]
          refine WL.skip (by kernel_rfl) ?_
          simp only [Act.put, List.setIfInBounds_toArray, List.set_cons_zero, List.set_cons_succ]
          refine WL.skip (by kernel_rfl) ?_
          simp only [Act.put, List.setIfInBounds_toArray, List.set_cons_zero, List.set_cons_succ]
          refine WL.skip (by kernel_rfl) ?_
          simp only [Act.put, List.setIfInBounds_toArray, List.set_cons_zero, List.set_cons_succ]
          refine WL.skip (by kernel_rfl) ?_
          simp only [Act.put, List.setIfInBounds_toArray, List.set_cons_zero, List.set_cons_succ]
          refine WL.skip (by kernel_rfl) ?_
          simp only [Act.put, List.setIfInBounds_toArray, List.set_cons_zero, List.set_cons_succ]
          refine WL.skip (by kernel_rfl) ?_
          simp only [Act.put, List.setIfInBounds_toArray, List.set_cons_zero, List.set_cons_succ]
          refine WL.skip (by kernel_rfl) ?_
          simp only [Act.put, List.setIfInBounds_toArray, List.set_cons_zero, List.set_cons_succ]
          refine WL.val (by kernel_rfl) (.bool false) (by go_simp) ?_
          simp only [Act.put, List.setIfInBounds_toArray, List.set_cons_zero, List.set_cons_succ]
          refine WL.val (by kernel_rfl) (.bool false) (by go_simp) ?_
          simp only [Act.put, List.setIfInBounds_toArray, List.set_cons_zero, List.set_cons_succ]
          refine WL.nil (hK2 _ _ ?_)
          go_wp2
          go_ret
          exact ⟨by rw [HA.out, e0, e1, e2, e3]; rfl, HB.out⟩
        · cases e4 : (x.op == y.op)
          · refine wp_seq_k fun K1 hK1 => ?_
            refine wp_region_list ?_
            refine wpList_boxA rfl 59 (.tmp 0) rfl (opA x) rfl ?_
            refine wpList_boxA rfl 59 (.tmp 1) rfl (opA y) rfl ?_
            rw [hw1.out]
            refine WL.out (WL.val (by kernel_rfl) (.bool false) (by go_simp) (WL.nil (hK1 _ _ ?_)))
            refine wp_seq_k fun K2 hK2 => ?_
            refine wp_region_list (WL.out ?_)
            refine WL.val (by kernel_rfl) (.pointer (some ⟨w.heap.size, 0, none⟩)) (by go_simp) ?_
            simp only [Act.put, List.setIfInBounds_toArray, List.set_cons_zero, List.set_cons_succ]
            refine WL.val (by kernel_rfl) (.int .i64 x.kind) (by go_simp) ?_
            simp only [Act.put, List.setIfInBounds_toArray, List.set_cons_zero, List.set_cons_succ]
            refine WL.val (by kernel_rfl) (.pointer (some ⟨w.heap.size + 1, 0, none⟩)) (by go_simp) ?_
            simp only [Act.put, List.setIfInBounds_toArray, List.set_cons_zero, List.set_cons_succ]
            refine WL.val (by kernel_rfl) (.int .i64 y.kind) (by go_simp) ?_
            simp only [Act.put, List.setIfInBounds_toArray, List.set_cons_zero, List.set_cons_succ]
            refine WL.val (by kernel_rfl) (.bool true) (by go_simp) ?_
            simp only [Act.put, List.setIfInBounds_toArray, List.set_cons_zero, List.set_cons_succ]
            refine WL.val (by kernel_rfl) (.bool true) (by go_simp) ?_
            simp only [Act.put, List.setIfInBounds_toArray, List.set_cons_zero, List.set_cons_succ]
            refine WL.val (by kernel_rfl) (.pointer (some ⟨w.heap.size, 1, none⟩)) (by go_simp) ?_
            simp only [Act.put, List.setIfInBounds_toArray, List.set_cons_zero, List.set_cons_succ]
            refine WL.val (by kernel_rfl) (.string x.key) (by go_simp) ?_
            simp only [Act.put, List.setIfInBounds_toArray, List.set_cons_zero, List.set_cons_succ]
            refine WL.val (by kernel_rfl) (.pointer (some ⟨w.heap.size + 1, 1, none⟩)) (by go_simp) ?_
            simp only [Act.put, List.setIfInBounds_toArray, List.set_cons_zero, List.set_cons_succ]
            refine WL.val (by kernel_rfl) (.string y.key) (by go_simp) ?_
            simp only [Act.put, List.setIfInBounds_toArray, List.set_cons_zero, List.set_cons_succ]
            refine WL.val (by kernel_rfl) (.bool true) (by go_simp) ?_
            simp only [Act.put, List.setIfInBounds_toArray, List.set_cons_zero, List.set_cons_succ]
            refine WL.val (by kernel_rfl) (.bool true) (by go_simp) ?_
            simp only [Act.put, List.setIfInBounds_toArray, List.set_cons_zero, List.set_cons_succ]
            refine WL.val (by kernel_rfl) (.bool true) (by go_simp) ?_
            simp only [Act.put, List.setIfInBounds_toArray, List.set_cons_zero, List.set_cons_succ]
            refine WL.val (by kernel_rfl) (.pointer (some ⟨w.heap.size, 2, none⟩)) (by go_simp) ?_
            simp only [Act.put, List.setIfInBounds_toArray, List.set_cons_zero, List.set_cons_succ]
            refine WL.val (by kernel_rfl) (.string x.text) (by go_simp) ?_
            simp only [Act.put, List.setIfInBounds_toArray, List.set_cons_zero, List.set_cons_succ]
            refine WL.val (by kernel_rfl) (.pointer (some ⟨w.heap.size + 1, 2, none⟩)) (by go_simp) ?_
            simp only [Act.put, List.setIfInBounds_toArray, List.set_cons_zero, List.set_cons_succ]
            refine WL.val (by kernel_rfl) (.string y.text) (by go_simp) ?_
            simp only [Act.put, List.setIfInBounds_toArray, List.set_cons_zero, List.set_cons_succ]
            refine WL.val (by kernel_rfl) (.bool true) (by go_simp) ?_
            simp only [Act.put, List.setIfInBounds_toArray, List.set_cons_zero, List.set_cons_succ]
            refine WL.val (by kernel_rfl) (.bool true) (by go_simp) ?_
            simp only [Act.put, List.setIfInBounds_toArray, List.set_cons_zero, List.set_cons_succ]
            refine WL.val (by kernel_rfl) (.bool true) (by go_simp) ?_
            simp only [Act.put, List.setIfInBounds_toArray, List.set_cons_zero, List.set_cons_succ]
            refine WL.val (by kernel_rfl) (.pointer (some ⟨w.heap.size, 3, none⟩)) (by go_simp) ?_
            simp only [Act.put, List.setIfInBounds_toArray, List.set_cons_zero, List.set_cons_succ]
            refine WL.val (by kernel_rfl) (.int .i64 x.n) (by go_simp) ?_
            simp only [Act.put, List.setIfInBounds_toArray, List.set_cons_zero, List.set_cons_succ]
            refine WL.val (by kernel_rfl) (.pointer (some ⟨w.heap.size + 1, 3, none⟩)) (by go_simp) ?_
            simp only [Act.put, List.setIfInBounds_toArray, List.set_cons_zero, List.set_cons_succ]
            refine WL.val (by kernel_rfl) (.int .i64 y.n) (by go_simp) ?_
            simp only [Act.put, List.setIfInBounds_toArray, List.set_cons_zero, List.set_cons_succ]
            refine WL.val (by kernel_rfl) (.bool true) (by go_simp) ?_
            simp only [Act.put, List.setIfInBounds_toArray, List.set_cons_zero, List.set_cons_succ]
            refine WL.val (by kernel_rfl) (.bool true) (by go_simp) ?_
            simp only [Act.put, List.setIfInBounds_toArray, List.set_cons_zero, List.set_cons_succ]
            refine WL.val (by kernel_rfl) (.bool true) (by go_simp) ?_
            simp only [Act.put, List.setIfInBounds_toArray, List.set_cons_zero, List.set_cons_succ]
            refine WL.val (by kernel_rfl) (.pointer (some ⟨w.heap.size, 4, none⟩)) (by go_simp) ?_
            simp only [Act.put, List.setIfInBounds_toArray, List.set_cons_zero, List.set_cons_succ]
            refine WL.val (by kernel_rfl) (.pointer (some ⟨w.heap.size, 36, none⟩)) (by go_simp) ?_
            simp only [Act.put, List.setIfInBounds_toArray, List.set_cons_zero, List.set_cons_succ]
            refine WL.val (by kernel_rfl) (.int .i64 x.op) (by go_simp) ?_
            simp only [Act.put, List.setIfInBounds_toArray, List.set_cons_zero, List.set_cons_succ]
            refine WL.val (by kernel_rfl) (.pointer (some ⟨w.heap.size + 1, 4, none⟩)) (by go_simp) ?_
            simp only [Act.put, List.setIfInBounds_toArray, List.set_cons_zero, List.set_cons_succ]
            refine WL.val (by kernel_rfl) (.pointer (some ⟨w.heap.size + 1, 36, none⟩)) (by go_simp) ?_
            simp only [Act.put, List.setIfInBounds_toArray, List.set_cons_zero, List.set_cons_succ]
            refine WL.val (by kernel_rfl) (.int .i64 y.op) (by go_simp) ?_
            simp only [Act.put, List.setIfInBounds_toArray, List.set_cons_zero, List.set_cons_succ]
            refine WL.val (by kernel_rfl) (.bool false) (by go_simp) ?_
            simp only [Act.put, List.setIfInBounds_toArray, List.set_cons_zero, List.set_cons_succ]
            refine WL.val (by kernel_rfl) (.bool false) (by go_simp) ?_
            simp only [Act.put, List.setIfInBounds_toArray, List.set_cons_zero, List.set_cons_succ]
            refine WL.val (by kernel_rfl) (.bool false) (by go_simp) ?_
            simp only [Act.put, List.setIfInBounds_toArray, List.set_cons_zero, List.set_cons_succ]
            refine WL.skip (by kernel_rfl) ?_
            simp only [Act.put, List.setIfInBounds_toArray, List.set_cons_zero, List.set_cons_succ]
            refine WL.skip (by kernel_rfl) ?_
            simp only [Act.put, List.setIfInBounds_toArray, List.set_cons_zero, List.set_cons_succ]
            refine WL.skip (by kernel_rfl) ?_
            simp only [Act.put, List.setIfInBounds_toArray, List.set_cons_zero, List.set_cons_succ]
            refine WL.skip (by kernel_rfl) ?_
            simp only [Act.put, List.setIfInBounds_toArray, List.set_cons_zero, List.set_cons_succ]
            refine WL.skip (by kernel_rfl) ?_
            simp only [Act.put, List.setIfInBounds_toArray, List.set_cons_zero, List.set_cons_succ]
            refine WL.skip (by kernel_rfl) ?_
            simp only [Act.put, List.setIfInBounds_toArray, List.set_cons_zero, List.set_cons_succ]
            refine WL.skip (by kernel_rfl) ?_
            simp only [Act.put, List.setIfInBounds_toArray, List.set_cons_zero, List.set_cons_succ]
            refine WL.val (by kernel_rfl) (.bool false) (by go_simp) ?_
            simp only [Act.put, List.setIfInBounds_toArray, List.set_cons_zero, List.set_cons_succ]
            refine WL.val (by kernel_rfl) (.bool false) (by go_simp) ?_
            simp only [Act.put, List.setIfInBounds_toArray, List.set_cons_zero, List.set_cons_succ]
            refine WL.nil (hK2 _ _ ?_)
            go_wp2
            go_ret
            exact ⟨by rw [HA.out, e0, e1, e2, e3, e4]; rfl, HB.out⟩
          · refine wp_seq_k fun K1 hK1 => ?_
            refine wp_region_list ?_
            refine wpList_boxA rfl 59 (.tmp 0) rfl (opA x) rfl ?_
            refine wpList_boxA rfl 59 (.tmp 1) rfl (opA y) rfl ?_
            rw [hw1.out]
            refine WL.out (WL.val (by kernel_rfl) (.bool false) (by go_simp) (WL.nil (hK1 _ _ ?_)))
            refine wp_seq_k fun K2 hK2 => ?_
            refine wp_region_list (WL.out ?_)
            refine WL.val (by kernel_rfl) (.pointer (some ⟨w.heap.size, 0, none⟩)) (by go_simp) ?_
            simp only [Act.put, List.setIfInBounds_toArray, List.set_cons_zero, List.set_cons_succ]
            refine WL.val (by kernel_rfl) (.int .i64 x.kind) (by go_simp) ?_
            simp only [Act.put, List.setIfInBounds_toArray, List.set_cons_zero, List.set_cons_succ]
            refine WL.val (by kernel_rfl) (.pointer (some ⟨w.heap.size + 1, 0, none⟩)) (by go_simp) ?_
            simp only [Act.put, List.setIfInBounds_toArray, List.set_cons_zero, List.set_cons_succ]
            refine WL.val (by kernel_rfl) (.int .i64 y.kind) (by go_simp) ?_
            simp only [Act.put, List.setIfInBounds_toArray, List.set_cons_zero, List.set_cons_succ]
            refine WL.val (by kernel_rfl) (.bool true) (by go_simp) ?_
            simp only [Act.put, List.setIfInBounds_toArray, List.set_cons_zero, List.set_cons_succ]
            refine WL.val (by kernel_rfl) (.bool true) (by go_simp) ?_
            simp only [Act.put, List.setIfInBounds_toArray, List.set_cons_zero, List.set_cons_succ]
            refine WL.val (by kernel_rfl) (.pointer (some ⟨w.heap.size, 1, none⟩)) (by go_simp) ?_
            simp only [Act.put, List.setIfInBounds_toArray, List.set_cons_zero, List.set_cons_succ]
            refine WL.val (by kernel_rfl) (.string x.key) (by go_simp) ?_
            simp only [Act.put, List.setIfInBounds_toArray, List.set_cons_zero, List.set_cons_succ]
            refine WL.val (by kernel_rfl) (.pointer (some ⟨w.heap.size + 1, 1, none⟩)) (by go_simp) ?_
            simp only [Act.put, List.setIfInBounds_toArray, List.set_cons_zero, List.set_cons_succ]
            refine WL.val (by kernel_rfl) (.string y.key) (by go_simp) ?_
            simp only [Act.put, List.setIfInBounds_toArray, List.set_cons_zero, List.set_cons_succ]
            refine WL.val (by kernel_rfl) (.bool true) (by go_simp) ?_
            simp only [Act.put, List.setIfInBounds_toArray, List.set_cons_zero, List.set_cons_succ]
            refine WL.val (by kernel_rfl) (.bool true) (by go_simp) ?_
            simp only [Act.put, List.setIfInBounds_toArray, List.set_cons_zero, List.set_cons_succ]
            refine WL.val (by kernel_rfl) (.bool true) (by go_simp) ?_
            simp only [Act.put, List.setIfInBounds_toArray, List.set_cons_zero, List.set_cons_succ]
            refine WL.val (by kernel_rfl) (.pointer (some ⟨w.heap.size, 2, none⟩)) (by go_simp) ?_
            simp only [Act.put, List.setIfInBounds_toArray, List.set_cons_zero, List.set_cons_succ]
            refine WL.val (by kernel_rfl) (.string x.text) (by go_simp) ?_
            simp only [Act.put, List.setIfInBounds_toArray, List.set_cons_zero, List.set_cons_succ]
            refine WL.val (by kernel_rfl) (.pointer (some ⟨w.heap.size + 1, 2, none⟩)) (by go_simp) ?_
            simp only [Act.put, List.setIfInBounds_toArray, List.set_cons_zero, List.set_cons_succ]
            refine WL.val (by kernel_rfl) (.string y.text) (by go_simp) ?_
            simp only [Act.put, List.setIfInBounds_toArray, List.set_cons_zero, List.set_cons_succ]
            refine WL.val (by kernel_rfl) (.bool true) (by go_simp) ?_
            simp only [Act.put, List.setIfInBounds_toArray, List.set_cons_zero, List.set_cons_succ]
            refine WL.val (by kernel_rfl) (.bool true) (by go_simp) ?_
            simp only [Act.put, List.setIfInBounds_toArray, List.set_cons_zero, List.set_cons_succ]
            refine WL.val (by kernel_rfl) (.bool true) (by go_simp) ?_
            simp only [Act.put, List.setIfInBounds_toArray, List.set_cons_zero, List.set_cons_succ]
            refine WL.val (by kernel_rfl) (.pointer (some ⟨w.heap.size, 3, none⟩)) (by go_simp) ?_
            simp only [Act.put, List.setIfInBounds_toArray, List.set_cons_zero, List.set_cons_succ]
            refine WL.val (by kernel_rfl) (.int .i64 x.n) (by go_simp) ?_
            simp only [Act.put, List.setIfInBounds_toArray, List.set_cons_zero, List.set_cons_succ]
            refine WL.val (by kernel_rfl) (.pointer (some ⟨w.heap.size + 1, 3, none⟩)) (by go_simp) ?_
            simp only [Act.put, List.setIfInBounds_toArray, List.set_cons_zero, List.set_cons_succ]
            refine WL.val (by kernel_rfl) (.int .i64 y.n) (by go_simp) ?_
            simp only [Act.put, List.setIfInBounds_toArray, List.set_cons_zero, List.set_cons_succ]
            refine WL.val (by kernel_rfl) (.bool true) (by go_simp) ?_
            simp only [Act.put, List.setIfInBounds_toArray, List.set_cons_zero, List.set_cons_succ]
            refine WL.val (by kernel_rfl) (.bool true) (by go_simp) ?_
            simp only [Act.put, List.setIfInBounds_toArray, List.set_cons_zero, List.set_cons_succ]
            refine WL.val (by kernel_rfl) (.bool true) (by go_simp) ?_
            simp only [Act.put, List.setIfInBounds_toArray, List.set_cons_zero, List.set_cons_succ]
            refine WL.val (by kernel_rfl) (.pointer (some ⟨w.heap.size, 4, none⟩)) (by go_simp) ?_
            simp only [Act.put, List.setIfInBounds_toArray, List.set_cons_zero, List.set_cons_succ]
            refine WL.val (by kernel_rfl) (.pointer (some ⟨w.heap.size, 36, none⟩)) (by go_simp) ?_
            simp only [Act.put, List.setIfInBounds_toArray, List.set_cons_zero, List.set_cons_succ]
            refine WL.val (by kernel_rfl) (.int .i64 x.op) (by go_simp) ?_
            simp only [Act.put, List.setIfInBounds_toArray, List.set_cons_zero, List.set_cons_succ]
            refine WL.val (by kernel_rfl) (.pointer (some ⟨w.heap.size + 1, 4, none⟩)) (by go_simp) ?_
            simp only [Act.put, List.setIfInBounds_toArray, List.set_cons_zero, List.set_cons_succ]
            refine WL.val (by kernel_rfl) (.pointer (some ⟨w.heap.size + 1, 36, none⟩)) (by go_simp) ?_
            simp only [Act.put, List.setIfInBounds_toArray, List.set_cons_zero, List.set_cons_succ]
            refine WL.val (by kernel_rfl) (.int .i64 y.op) (by go_simp) ?_
            simp only [Act.put, List.setIfInBounds_toArray, List.set_cons_zero, List.set_cons_succ]
            refine WL.val (by kernel_rfl) (.bool true) (by go_simp) ?_
            simp only [Act.put, List.setIfInBounds_toArray, List.set_cons_zero, List.set_cons_succ]
            refine WL.val (by kernel_rfl) (.bool true) (by go_simp) ?_
            simp only [Act.put, List.setIfInBounds_toArray, List.set_cons_zero, List.set_cons_succ]
            refine WL.val (by kernel_rfl) (.bool true) (by go_simp) ?_
            simp only [Act.put, List.setIfInBounds_toArray, List.set_cons_zero, List.set_cons_succ]
            refine WL.val (by kernel_rfl) (.pointer (some ⟨w.heap.size, 4, none⟩)) (by go_simp) ?_
            simp only [Act.put, List.setIfInBounds_toArray, List.set_cons_zero, List.set_cons_succ]
            refine WL.val (by kernel_rfl) (.pointer (some ⟨w.heap.size, 4, none⟩)) (by go_simp) ?_
            simp only [Act.put, List.setIfInBounds_toArray, List.set_cons_zero, List.set_cons_succ]
            refine WL.mid (by kernel_rfl) 55 (.tmp 42) rfl w.heap.size 4 rfl cX _ HRx.out Try.underlying55 rfl hsx.out ?_
            simp only [Act.put, List.setIfInBounds_toArray, List.set_cons_zero, List.set_cons_succ]
            refine WL.val (by kernel_rfl) (.pointer (some ⟨w.heap.size + 1, 4, none⟩)) (by go_simp) ?_
            simp only [Act.put, List.setIfInBounds_toArray, List.set_cons_zero, List.set_cons_succ]
            refine WL.val (by kernel_rfl) (.pointer (some ⟨w.heap.size + 1, 4, none⟩)) (by go_simp) ?_
            simp only [Act.put, List.setIfInBounds_toArray, List.set_cons_zero, List.set_cons_succ]
            refine WL.mid (by kernel_rfl) 55 (.tmp 45) rfl (w.heap.size + 1) 4 rfl cY _ HRy.out Try.underlying55 rfl hsy.out ?_
            simp only [Act.put, List.setIfInBounds_toArray, List.set_cons_zero, List.set_cons_succ]
            refine WL.val (by kernel_rfl) (.bool E) (by go_simp) ?_
            simp only [Act.put, List.setIfInBounds_toArray, List.set_cons_zero, List.set_cons_succ]
            refine WL.val (by kernel_rfl) (.bool E) (by go_simp) ?_
            simp only [Act.put, List.setIfInBounds_toArray, List.set_cons_zero, List.set_cons_succ]
            refine WL.val (by kernel_rfl) (.bool E) (by go_simp) ?_
            simp only [Act.put, List.setIfInBounds_toArray, List.set_cons_zero, List.set_cons_succ]
            refine WL.nil (hK2 _ _ ?_)
            go_wp2
            go_ret
            exact ⟨by rw [HA.out, e0, e1, e2, e3, e4]; rfl, HB.out⟩
section
variable {P : Program} {ops : Array Oper} {rest : List Oper} {o : Oper} {a : Act} {w : World} {Q : Exit → Act → World → Prop}
theorem WL.row (hw : Region.wanted o (yielded ops a.tmps) = true) (ty : TypeId) (x : Operand) (ho : o.op = .load ty x)
    (b : Nat) (hx : a.eval x = .pointer (some ⟨b, 0, none⟩)) (t : TypeId) (cs : Array Value) (d : TypeDesc) (hc : Blk w b t cs)
    (hu : P.underlying ty = some d) (hd : d.isRow = true) (hi : (P.info? ty).map (·.size) = some cs.size)
    (h : WL P ops Q rest (a.put o.dst (.agg cs)) w) : WL P ops Q (o :: rest) a w :=
  WL.mid hw ty x ho b 0 hx cs.toList d (blk_range hc) hu hd (by rw [Array.length_toList]; exact hi) (by rw [Array.toArray_toList]; exact h)
theorem WL.midA (hw : Region.wanted o (yielded ops a.tmps) = true) (ty : TypeId) (x : Operand) (ho : o.op = .load ty x)
    (b of : Nat) (hx : a.eval x = .pointer (some ⟨b, of, none⟩)) (cs : Array Value) (d : TypeDesc) (hc : w.rangeAt b of cs.toList)
    (hu : P.underlying ty = some d) (hd : d.isRow = true) (hi : (P.info? ty).map (·.size) = some cs.size)
    (h : WL P ops Q rest (a.put o.dst (.agg cs)) w) : WL P ops Q (o :: rest) a w :=
  WL.mid hw ty x ho b of hx cs.toList d hc hu hd (by rw [Array.length_toList]; exact hi) (by rw [Array.toArray_toList]; exact h)
theorem WL.new (hw : Region.wanted o (yielded ops a.tmps) = true) (t : TypeId) (ho : o.op = .alloc t) (cells : Array Value)
    (hf : ∀ w : World, (Instr.alloc t true (.tuple #[])).run P w = .ok (.pointer (some ⟨w.heap.size, 0, none⟩)) (w.alloc (.cells cells t)))
    (h : WL P ops Q rest (a.put o.dst (.pointer (some ⟨w.heap.size, 0, none⟩))) (w.alloc (.cells cells t))) : WL P ops Q (o :: rest) a w :=
  ⟨wpList_wanted hw fun K hK => by
    unfold Oper.wp execOp
    simp only [ho, Sem.run_bind, hf w, Result.andThen_ok]
    exact hK _ _ h.out⟩
theorem WL.box (hw : Region.wanted o (yielded ops a.tmps) = true) (t : TypeId) (x : Operand) (ho : o.op = .box t x) (cs : Array Value) (hx : a.eval x = .agg cs)
    (h : WL P ops Q rest (a.put o.dst (.pointer (some ⟨w.heap.size, 0, none⟩))) (w.alloc (.cells cs t))) : WL P ops Q (o :: rest) a w :=
  ⟨wpList_wanted hw fun K hK => by
    unfold Oper.wp execOp
    simp only [ho, hx, Sem.run_bind, run_box_agg, Result.andThen_ok]
    exact hK _ _ h.out⟩
theorem WL.storeR (hw : Region.wanted o (yielded ops a.tmps) = true) (ty : TypeId) (x y : Operand) (ho : o.op = .store ty x y)
    (g : Nat) (cells : Array Value) (hx : a.eval x = .pointer (some ⟨g, 0, none⟩)) (hy : a.eval y = .agg cells)
    (t : TypeId) (old : Array Value) (hg : Blk w g t old) (hi : (P.info? ty).map (·.size) = some cells.size) (hold : old.size = cells.size) (h1 : cells.all (·.oneCell') = true)
    (h : WL P ops Q rest (a.put o.dst undef) (w.setRow g cells)) : WL P ops Q (o :: rest) a w :=
  ⟨wpList_wanted hw fun _ hK => wp_store_row ty x y ho g cells hx hy t old hg hi hold h1 (hK _ _ h.out)⟩
theorem WL.cell (hw : Region.wanted o (yielded ops a.tmps) = true) (w' : World) (hrun : (execOp a.eval o).run P w = .ok .skip w')
    (h : WL P ops Q rest (a.put o.dst undef) w') : WL P ops Q (o :: rest) a w :=
  ⟨wpList_wanted hw fun _ hK => by unfold Oper.wp; rw [hrun, Oper.upon_skip]; exact hK _ _ h.out⟩
theorem WL.valW (hw : Region.wanted o (yielded ops a.tmps) = true) (v : Value) (w' : World) (hrun : (execOp a.eval o).run P w = .ok (.value v) w')
    (h : WL P ops Q rest (a.put o.dst v) w') : WL P ops Q (o :: rest) a w :=
  ⟨wpList_wanted hw fun _ hK => by unfold Oper.wp; rw [hrun, Oper.upon_value]; exact hK _ _ h.out⟩
theorem WL.bld (hw : Region.wanted o (yielded ops a.tmps) = true) (t : TypeId) (parts : Array (Nat × Operand)) (ho : o.op = .build t parts)
    (vs : List (Nat × Value)) (hv : (parts.map fun (i, x) => (i, a.eval x)).toList = vs) (cells : Array Value) (hf : P.built t vs = some cells)
    (h : WL P ops Q rest (a.put o.dst (.agg cells)) w) : WL P ops Q (o :: rest) a w :=
  ⟨wpList_wanted hw fun _ hK => wp_bldG t parts ho cells (by rw [hv]; exact hf) (hK _ _ h.out)⟩
theorem WL.bs (hw : Region.wanted o (yielded ops a.tmps) = true) (t : TypeId) (n : Nat) (parts : Array (Nat × Operand)) (ho : o.op = .buildSlice t n parts)
    (vs : Array (Nat × Value)) (hv : (parts.map fun (i, x) => (i, a.eval x)) = vs) (v : Value) (w' : World) (hrun : (Instr.buildSlice t n vs).run P w = .ok v w')
    (h : WL P ops Q rest (a.put o.dst v) w') : WL P ops Q (o :: rest) a w :=
  ⟨wpList_wanted hw fun K hK => by
    unfold Oper.wp execOp
    simp only [ho, hv, Sem.run_bind, hrun, Result.andThen_ok]
    exact hK _ _ h.out⟩
theorem WL.part (hw : Region.wanted o (yielded ops a.tmps) = true) (ty : TypeId) (x y : Operand) (ho : o.op = .store ty x y)
    (g off : Nat) (cells : Array Value) (hx : a.eval x = .pointer (some ⟨g, off, none⟩)) (hy : a.eval y = .agg cells)
    (t : TypeId) (cur : Array Value) (hg : Blk w g t cur) (hi : (P.info? ty).map (·.size) = some cells.size) (hfit : off + cells.size ≤ cur.size) (h1 : cells.all (·.oneCell') = true)
    (new : Array Value) (hn : (cur.toList.take off ++ cells.toList ++ cur.toList.drop (off + cells.size)).toArray = new)
    (h : WL P ops Q rest (a.put o.dst undef) (w.setRow g new)) : WL P ops Q (o :: rest) a w := by
  subst hn
  refine ⟨wpList_wanted hw fun K hK => ?_⟩
  have hst := run_storeCells_at P g off t cells.toList 0 cur w hg (by simpa using hfit) (fun v hv => (Array.all_eq_true_iff_forall_mem.1 h1) v (by simpa using hv))
  have hrun : (storeVar ty ⟨g, off, none⟩ (.agg cells)).run P w = .ok () (w.setRow g (cur.toList.take off ++ cells.toList ++ cur.toList.drop (off + cells.size)).toArray) := by
    cases hq : P.info? ty with
    | none => simp [hq] at hi
    | some i =>
      have hs : cells.size = i.size := by simp [hq] at hi; omega
      simp only [Nat.add_zero, Array.length_toList] at hst
      simp [storeVar, sizeOf, typeInfo, hq, Value.cells, hs, hst]
  unfold Oper.wp execOp
  simp only [ho, hx, hy, Instr.storeAt, Instr.sureAddr, Sem.run_bind, Sem.run_pure, Result.andThen_ok, hrun]
  exact hK _ _ h.out
theorem run_callF (a : Act) (o : Oper) (f : FuncId) (args : Array Operand) (ts : Array TypeId) (ho : o.op = .call { callee := .value (.func f), args := args, argTypes := ts })
    (hf : ∀ (w : World) (vs : Array Value), (callFunc f vs).run P w = .ok (.enter f vs) w) (w : World) :
    (execOp a.eval o).run P w = .ok (.enter f (args.map a.eval)) w := by
  unfold execOp
  simp only [ho]
  simp [resolve, Act.eval, go_sem]
  exact hf w _
theorem run_callV (a : Act) (o : Oper) (f : FuncId) (x : Operand) (args : Array Operand) (ts : Array TypeId) (ho : o.op = .call { callee := .value x, args := args, argTypes := ts }) (hx : a.eval x = .func (.func f) #[] #[])
    (hf : ∀ (w : World) (vs : Array Value), (callFunc f vs).run P w = .ok (.enter f vs) w) (w : World) :
    (execOp a.eval o).run P w = .ok (.enter f (args.map a.eval)) w := by
  unfold execOp
  simp only [ho, resolve, hx]
  generalize Array.map a.eval args = vs
  simp [go_sem]
  exact hf w _
theorem WL.callF (hw : Region.wanted o (yielded ops a.tmps) = true) (f : FuncId) (args : Array Operand) (ts : Array TypeId) (ho : o.op = .call { callee := .value (.func f), args := args, argTypes := ts })
    (hf : ∀ (w : World) (vs : Array Value), (callFunc f vs).run P w = .ok (.enter f vs) w) (vs : Array Value) (hvs : args.map a.eval = vs)
    (hc : Calls P f vs w fun e w' => ∃ v, e = .returned v ∧ WL P ops Q rest (a.put o.dst v) w') : WL P ops Q (o :: rest) a w :=
  ⟨wpList_wanted hw fun K hK => by
    unfold Oper.wp
    rw [run_callF a o f args ts ho hf w, Oper.upon_enter, hvs]
    refine hc.mono ?_
    rintro e w' ⟨v, rfl, hr⟩
    exact hK _ _ hr.out⟩
theorem WL.callV (hw : Region.wanted o (yielded ops a.tmps) = true) (f : FuncId) (x : Operand) (args : Array Operand) (ts : Array TypeId) (ho : o.op = .call { callee := .value x, args := args, argTypes := ts }) (hx : a.eval x = .func (.func f) #[] #[])
    (hf : ∀ (w : World) (vs : Array Value), (callFunc f vs).run P w = .ok (.enter f vs) w) (vs : Array Value) (hvs : args.map a.eval = vs)
    (hc : Calls P f vs w fun e w' => ∃ v, e = .returned v ∧ WL P ops Q rest (a.put o.dst v) w') : WL P ops Q (o :: rest) a w :=
  ⟨wpList_wanted hw fun K hK => by
    unfold Oper.wp
    rw [run_callV a o f x args ts ho hx hf w, Oper.upon_enter, hvs]
    refine hc.mono ?_
    rintro e w' ⟨v, rfl, hr⟩
    exact hK _ _ hr.out⟩
end
theorem Blk.c {w : World} {b : Nat} {T : TypeId} {cs : Array Value} (h : Blk w b T cs) (j : Nat) {v : Value} (hv : cs[j]? = some v) : w.cell? ⟨b, j, none⟩ = some v := by rw [h.cell]; exact hv
theorem Try.in26 (w : World) (vs : Array Value) : (callFunc 26 vs).run Try.prog w = .ok (.enter 26 vs) w := by kernel_rfl
theorem Try.in27 (w : World) (vs : Array Value) : (callFunc 27 vs).run Try.prog w = .ok (.enter 27 vs) w := by kernel_rfl
theorem Try.in60 (w : World) (vs : Array Value) : (callFunc 60 vs).run Try.prog w = .ok (.enter 60 vs) w := by kernel_rfl
theorem Try.in23 (w : World) (vs : Array Value) : (callFunc 23 vs).run Try.prog w = .ok (.enter 23 vs) w := by kernel_rfl
theorem Try.in24 (w : World) (vs : Array Value) : (callFunc 24 vs).run Try.prog w = .ok (.enter 24 vs) w := by kernel_rfl
theorem Try.in18 (w : World) (vs : Array Value) : (callFunc 18 vs).run Try.prog w = .ok (.enter 18 vs) w := by kernel_rfl
theorem Try.in20 (w : World) (vs : Array Value) : (callFunc 20 vs).run Try.prog w = .ok (.enter 20 vs) w := by kernel_rfl
theorem Try.in28 (w : World) (vs : Array Value) : (callFunc 28 vs).run Try.prog w = .ok (.enter 28 vs) w := by kernel_rfl
theorem Try.in22 (w : World) (vs : Array Value) : (callFunc 22 vs).run Try.prog w = .ok (.enter 22 vs) w := by kernel_rfl
theorem Try.in38 (w : World) (vs : Array Value) : (callFunc 38 vs).run Try.prog w = .ok (.enter 38 vs) w := by kernel_rfl
theorem Try.in13 (w : World) (vs : Array Value) : (callFunc 13 vs).run Try.prog w = .ok (.enter 13 vs) w := by kernel_rfl
theorem Try.in14 (w : World) (vs : Array Value) : (callFunc 14 vs).run Try.prog w = .ok (.enter 14 vs) w := by kernel_rfl
theorem Try.in33 (w : World) (vs : Array Value) : (callFunc 33 vs).run Try.prog w = .ok (.enter 33 vs) w := by kernel_rfl
theorem Try.in39 (w : World) (vs : Array Value) : (callFunc 39 vs).run Try.prog w = .ok (.enter 39 vs) w := by kernel_rfl
theorem Try.in40 (w : World) (vs : Array Value) : (callFunc 40 vs).run Try.prog w = .ok (.enter 40 vs) w := by kernel_rfl
theorem Try.in37 (w : World) (vs : Array Value) : (callFunc 37 vs).run Try.prog w = .ok (.enter 37 vs) w := by kernel_rfl
theorem Try.in41 (w : World) (vs : Array Value) : (callFunc 41 vs).run Try.prog w = .ok (.enter 41 vs) w := by kernel_rfl
theorem Try.in42 (w : World) (vs : Array Value) : (callFunc 42 vs).run Try.prog w = .ok (.enter 42 vs) w := by kernel_rfl
theorem Try.in43 (w : World) (vs : Array Value) : (callFunc 43 vs).run Try.prog w = .ok (.enter 43 vs) w := by kernel_rfl
theorem Try.in44 (w : World) (vs : Array Value) : (callFunc 44 vs).run Try.prog w = .ok (.enter 44 vs) w := by kernel_rfl
theorem Try.in45 (w : World) (vs : Array Value) : (callFunc 45 vs).run Try.prog w = .ok (.enter 45 vs) w := by kernel_rfl
theorem Try.in46 (w : World) (vs : Array Value) : (callFunc 46 vs).run Try.prog w = .ok (.enter 46 vs) w := by kernel_rfl
theorem Try.in31 (w : World) (vs : Array Value) : (callFunc 31 vs).run Try.prog w = .ok (.enter 31 vs) w := by kernel_rfl
theorem Try.in32 (w : World) (vs : Array Value) : (callFunc 32 vs).run Try.prog w = .ok (.enter 32 vs) w := by kernel_rfl
theorem Try.in34 (w : World) (vs : Array Value) : (callFunc 34 vs).run Try.prog w = .ok (.enter 34 vs) w := by kernel_rfl
theorem Try.in35 (w : World) (vs : Array Value) : (callFunc 35 vs).run Try.prog w = .ok (.enter 35 vs) w := by kernel_rfl
theorem Try.in36 (w : World) (vs : Array Value) : (callFunc 36 vs).run Try.prog w = .ok (.enter 36 vs) w := by kernel_rfl
theorem Try.in59 (w : World) (vs : Array Value) : (callFunc 59 vs).run Try.prog w = .ok (.enter 59 vs) w := by kernel_rfl
theorem Try.in61 (w : World) (vs : Array Value) : (callFunc 61 vs).run Try.prog w = .ok (.enter 61 vs) w := by kernel_rfl
theorem Try.in62 (w : World) (vs : Array Value) : (callFunc 62 vs).run Try.prog w = .ok (.enter 62 vs) w := by kernel_rfl
theorem Try.in58 (w : World) (vs : Array Value) : (callFunc 58 vs).run Try.prog w = .ok (.enter 58 vs) w := by kernel_rfl
theorem Try.in53 (w : World) (vs : Array Value) : (callFunc 53 vs).run Try.prog w = .ok (.enter 53 vs) w := by kernel_rfl
theorem Try.in54 (w : World) (vs : Array Value) : (callFunc 54 vs).run Try.prog w = .ok (.enter 54 vs) w := by kernel_rfl
theorem Try.in55 (w : World) (vs : Array Value) : (callFunc 55 vs).run Try.prog w = .ok (.enter 55 vs) w := by kernel_rfl
theorem Try.in56 (w : World) (vs : Array Value) : (callFunc 56 vs).run Try.prog w = .ok (.enter 56 vs) w := by kernel_rfl
theorem Try.in57 (w : World) (vs : Array Value) : (callFunc 57 vs).run Try.prog w = .ok (.enter 57 vs) w := by kernel_rfl
theorem Try.in63 (w : World) (vs : Array Value) : (callFunc 63 vs).run Try.prog w = .ok (.enter 63 vs) w := by kernel_rfl
theorem Try.in64 (w : World) (vs : Array Value) : (callFunc 64 vs).run Try.prog w = .ok (.enter 64 vs) w := by kernel_rfl
theorem Try.in65 (w : World) (vs : Array Value) : (callFunc 65 vs).run Try.prog w = .ok (.enter 65 vs) w := by kernel_rfl
theorem Try.in66 (w : World) (vs : Array Value) : (callFunc 66 vs).run Try.prog w = .ok (.enter 66 vs) w := by kernel_rfl
theorem Try.in67 (w : World) (vs : Array Value) : (callFunc 67 vs).run Try.prog w = .ok (.enter 67 vs) w := by kernel_rfl
theorem Try.in68 (w : World) (vs : Array Value) : (callFunc 68 vs).run Try.prog w = .ok (.enter 68 vs) w := by kernel_rfl
theorem Try.in69 (w : World) (vs : Array Value) : (callFunc 69 vs).run Try.prog w = .ok (.enter 69 vs) w := by kernel_rfl
theorem Try.in70 (w : World) (vs : Array Value) : (callFunc 70 vs).run Try.prog w = .ok (.enter 70 vs) w := by kernel_rfl
theorem Try.in71 (w : World) (vs : Array Value) : (callFunc 71 vs).run Try.prog w = .ok (.enter 71 vs) w := by kernel_rfl
theorem Try.in72 (w : World) (vs : Array Value) : (callFunc 72 vs).run Try.prog w = .ok (.enter 72 vs) w := by kernel_rfl
theorem Try.in73 (w : World) (vs : Array Value) : (callFunc 73 vs).run Try.prog w = .ok (.enter 73 vs) w := by kernel_rfl
theorem Try.in74 (w : World) (vs : Array Value) : (callFunc 74 vs).run Try.prog w = .ok (.enter 74 vs) w := by kernel_rfl
theorem Try.in75 (w : World) (vs : Array Value) : (callFunc 75 vs).run Try.prog w = .ok (.enter 75 vs) w := by kernel_rfl
theorem Try.in76 (w : World) (vs : Array Value) : (callFunc 76 vs).run Try.prog w = .ok (.enter 76 vs) w := by kernel_rfl
theorem Try.in77 (w : World) (vs : Array Value) : (callFunc 77 vs).run Try.prog w = .ok (.enter 77 vs) w := by kernel_rfl
theorem Try.in78 (w : World) (vs : Array Value) : (callFunc 78 vs).run Try.prog w = .ok (.enter 78 vs) w := by kernel_rfl
theorem Try.in17 (w : World) (vs : Array Value) : (callFunc 17 vs).run Try.prog w = .ok (.enter 17 vs) w := by kernel_rfl
theorem Try.in83 (w : World) (vs : Array Value) : (callFunc 83 vs).run Try.prog w = .ok (.enter 83 vs) w := by kernel_rfl
theorem Try.in84 (w : World) (vs : Array Value) : (callFunc 84 vs).run Try.prog w = .ok (.enter 84 vs) w := by kernel_rfl
end Go.Proofs.Ytkjjlfpghhefcab
namespace Go.Proofs.Ytkjjlfpghhefcab
open Go.RowKit
set_option linter.unusedSimpArgs false

def wipe (i : Nat) (x : OpV) : OpV := if i = 0 then { x with key := { data := #[] } } else if i = 1 then { x with text := { data := #[] } } else if i = 2 then { x with n := 0 } else { x with node := z32, op := 0 }
def wipes (is : List Nat) (x : OpV) : OpV := is.foldl (fun x i => wipe i x) x
theorem wipes_next (is : List Nat) (t : Nat) (h : t < is.length) (x : OpV) : wipes (is.take (t + 1)) x = wipe (is.getD t 0) (wipes (is.take t) x) := by
  unfold wipes
  rw [List.take_succ_eq_append_getElem h, List.foldl_append]
  simp [List.getD_eq_getElem?_getD, h]
def WipePost (i g : Nat) (x : OpV) (w : World) (e : Ending) (w' : World) : Prop := e = .returned (.tuple #[]) ∧ Blk w' g 59 (opA (wipe i x)) ∧ Grown w w' fun k => k = g
theorem wipe0_any (g : Nat) (x : OpV) (w : World) (h : Blk w g 59 (opA x)) : Calls Try.prog 63 #[ptr g] w (WipePost 0 g x w) := by
  have c1 := h.c 1 (opA_1 x)
  have f1 := h.frozen 1
  have HB := Keep.mk (h.set 1 (.string { data := #[] }))
  rw [set_1] at HB
  clear h
  go_enter Try.func63, Try.ntmps63
  refine wp_region_list (WL.out ?_)
  refine WL.val (by kernel_rfl) (.pointer (some ⟨g, 0, none⟩)) (by go_simp) ?_
  simp only [Act.put, List.setIfInBounds_toArray, List.set_cons_zero, List.set_cons_succ]
  refine WL.val (by kernel_rfl) (.pointer (some ⟨g, 0, none⟩)) (by go_simp) ?_
  simp only [Act.put, List.setIfInBounds_toArray, List.set_cons_zero, List.set_cons_succ]
  refine WL.val (by kernel_rfl) (.pointer (some ⟨g, 1, none⟩)) (by go_simp) ?_
  simp only [Act.put, List.setIfInBounds_toArray, List.set_cons_zero, List.set_cons_succ]
  refine WL.cell (by kernel_rfl) (w.setCell ⟨g, 1, none⟩ (.string { data := #[] })) (by go_simp) ?_
  simp only [Act.put]
  refine WL.nil ?_
  go_end0
  exact ⟨rfl, HB.out, Grown.setCell w g 1 _ fun _ => rfl⟩
theorem wipe1_any (g : Nat) (x : OpV) (w : World) (h : Blk w g 59 (opA x)) : Calls Try.prog 68 #[ptr g] w (WipePost 1 g x w) := by
  have c1 := h.c 2 (opA_2 x)
  have f1 := h.frozen 2
  have HB := Keep.mk (h.set 2 (.string { data := #[] }))
  rw [set_2] at HB
  clear h
  go_enter Try.func68, Try.ntmps68
  refine wp_region_list (WL.out ?_)
  refine WL.val (by kernel_rfl) (.pointer (some ⟨g, 0, none⟩)) (by go_simp) ?_
  simp only [Act.put, List.setIfInBounds_toArray, List.set_cons_zero, List.set_cons_succ]
  refine WL.val (by kernel_rfl) (.pointer (some ⟨g, 0, none⟩)) (by go_simp) ?_
  simp only [Act.put, List.setIfInBounds_toArray, List.set_cons_zero, List.set_cons_succ]
  refine WL.val (by kernel_rfl) (.pointer (some ⟨g, 2, none⟩)) (by go_simp) ?_
  simp only [Act.put, List.setIfInBounds_toArray, List.set_cons_zero, List.set_cons_succ]
  refine WL.cell (by kernel_rfl) (w.setCell ⟨g, 2, none⟩ (.string { data := #[] })) (by go_simp) ?_
  simp only [Act.put]
  refine WL.nil ?_
  go_end0
  exact ⟨rfl, HB.out, Grown.setCell w g 2 _ fun _ => rfl⟩
theorem wipe2_any (g : Nat) (x : OpV) (w : World) (h : Blk w g 59 (opA x)) : Calls Try.prog 71 #[ptr g] w (WipePost 2 g x w) := by
  have c1 := h.c 3 (opA_3 x)
  have f1 := h.frozen 3
  have HB := Keep.mk (h.set 3 (.int .i64 0))
  rw [set_3] at HB
  clear h
  go_enter Try.func71, Try.ntmps71
  refine wp_region_list (WL.out ?_)
  refine WL.val (by kernel_rfl) (.pointer (some ⟨g, 0, none⟩)) (by go_simp) ?_
  simp only [Act.put, List.setIfInBounds_toArray, List.set_cons_zero, List.set_cons_succ]
  refine WL.val (by kernel_rfl) (.pointer (some ⟨g, 0, none⟩)) (by go_simp) ?_
  simp only [Act.put, List.setIfInBounds_toArray, List.set_cons_zero, List.set_cons_succ]
  refine WL.val (by kernel_rfl) (.pointer (some ⟨g, 3, none⟩)) (by go_simp) ?_
  simp only [Act.put, List.setIfInBounds_toArray, List.set_cons_zero, List.set_cons_succ]
  refine WL.cell (by kernel_rfl) (w.setCell ⟨g, 3, none⟩ (.int .i64 0)) (by go_simp) ?_
  simp only [Act.put]
  refine WL.nil ?_
  go_end0
  exact ⟨rfl, HB.out, Grown.setCell w g 3 _ fun _ => rfl⟩
theorem wipe3_any (g : Nat) (x : OpV) (w : World) (h : Blk w g 59 (opA x)) : Calls Try.prog 76 #[ptr g] w (WipePost 3 g x w) := by
  have HB := Keep.mk h
  clear h
  go_enter Try.func76, Try.ntmps76
  refine wp_region_list (WL.out ?_)
  refine WL.val (by kernel_rfl) (.pointer (some ⟨g, 0, none⟩)) (by go_simp) ?_
  simp only [Act.put, List.setIfInBounds_toArray, List.set_cons_zero, List.set_cons_succ]
  refine WL.bld (by kernel_rfl) 57 _ rfl [] (by simp) (idA z32 0) Try.built57 ?_
  simp only [Act.put, List.setIfInBounds_toArray, List.set_cons_zero, List.set_cons_succ]
  refine WL.val (by kernel_rfl) (.pointer (some ⟨g, 0, none⟩)) (by go_simp) ?_
  simp only [Act.put, List.setIfInBounds_toArray, List.set_cons_zero, List.set_cons_succ]
  refine WL.val (by kernel_rfl) (.pointer (some ⟨g, 4, none⟩)) (by go_simp) ?_
  simp only [Act.put, List.setIfInBounds_toArray, List.set_cons_zero, List.set_cons_succ]
  refine WL.part (by kernel_rfl) 57 (.tmp 5) (.tmp 3) rfl g 4 (idA z32 0) rfl rfl 59 (opA x) HB.out (Try.size57B _ _) (by rw [idA_size, opA_size]; decide) (idA_one _ _) _ (put_at x z32 0) ?_
  simp only [Act.put]
  refine WL.nil ?_
  go_end0
  exact ⟨rfl, HB.out.setRow _, Grown.setRow w g _ fun _ => rfl⟩
theorem FieldsAt.form {w : World} {v : Value} {is : List Nat} (h : FieldsAt w v is) : ∃ a c, v = .slice a is.length c := by
  rcases h with ⟨rfl, rfl⟩ | ⟨g, rfl, _⟩
  · exact ⟨_, _, rfl⟩
  · exact ⟨_, _, rfl⟩
theorem FieldsAt.below {w w' : World} {v : Value} {is : List Nat} (h : FieldsAt w v is) (hb : Below w.heap.size w w') : FieldsAt w' v is :=
  h.grown (Grown.below (S := fun _ => False) hb) fun _ _ h => h
theorem flatF_drop (is : List Nat) : ∀ t, (flatF is).toList.drop (t * 3) = (is.drop t).flatMap fun i => (fldA i).toList := by
  induction is with
  | nil => intro t; simp [flatF]
  | cons i is ih =>
    intro t
    cases t with
    | zero => simp [flatF]
    | succ t =>
      have := ih t
      simp only [flatF, List.flatMap_cons, List.drop_succ_cons] at this ⊢
      rw [← this, show (t + 1) * 3 = 3 + t * 3 by omega, ← List.drop_drop, List.drop_left' (by rw [Array.length_toList, fldA_size])]
theorem flat_range {w : World} {g : Nat} {is : List Nat} (h : Blk w g 95 (flatF is)) {t : Nat} (ht : t < is.length) : w.rangeAt g (t * 3) (fldA (is.getD t 0)).toList := fun j v hv => by
  rw [h.cell]
  have h3 : j < 3 := by have := (List.getElem?_eq_some_iff.1 hv).1; rw [Array.length_toList, fldA_size] at this; exact this
  have e : (flatF is)[t * 3 + j]? = ((flatF is).toList.drop (t * 3))[j]? := by rw [List.getElem?_drop, Array.getElem?_toList]
  rw [e, flatF_drop, List.drop_eq_getElem_cons ht, List.flatMap_cons, List.getElem?_append_left (by rw [Array.length_toList, fldA_size]; exact h3)]
  rw [show is[t] = is.getD t 0 by simp [List.getD_eq_getElem?_getD, ht]]
  exact hv
theorem FieldsAt.at {w : World} {a : Option Addr} {n c : Nat} {is : List Nat} (h : FieldsAt w (.slice a n c) is) {t : Nat} (ht : t < is.length) : ∃ g, a = some ⟨g, 0, none⟩ ∧ w.rangeAt g (0 + t * 3) (fldA (is.getD t 0)).toList := by
  rcases h with ⟨_, rfl⟩ | ⟨g, e, h2⟩
  · simp at ht
  · injection e with e1 e2 e3
    exact ⟨g, e1, by rw [Nat.zero_add]; exact flat_range h2 ht⟩
set_option maxRecDepth 8000 in
set_option maxHeartbeats 1000000 in
theorem other_any (x : OpV) (v : Value) (is : List Nat) (w : World) (hF : FieldsAt w v is) (hi : ∀ i ∈ is, i < 4) (hn : is.length ≤ 3) :
    Calls Try.prog 59 #[.agg (opA x), v] w fun e w' => e = .returned (.bool (!sm (wipes is { x with kind := 0 }) zeroOp)) ∧ Below w.heap.size w w' := by
  obtain ⟨va, vc, rfl⟩ := hF.form
  have HF := Keep.mk hF
  have Hi := Keep.mk hi
  have Hn := Keep.mk hn
  have HB := Keep.mk (Blk.new w 59 (opA x))
  have HW := Keep.mk (below_new w (.cells (opA x) 59))
  obtain ⟨w1, hw1⟩ : ∃ w1, Keep (w.alloc (.cells (opA x) 59) = w1) := ⟨_, ⟨rfl⟩⟩
  rw [hw1.out] at HB HW
  have Hw1 : Keep (w.heap.size < w1.heap.size) := ⟨HB.out.lt⟩
  obtain ⟨x0, hx0⟩ : ∃ x0, x0 = { x with kind := 0 } := ⟨_, rfl⟩
  rw [← hx0]
  clear hF hi hn
  go_enter Try.func59, Try.ntmps59
  refine wp_seq_k fun K1 hK1 => ?_
  refine wp_region_list (WL.out ?_)
  refine WL.box (by kernel_rfl) 59 (.tmp 0) rfl (opA x) rfl ?_
  rw [hw1.out]
  simp only [Act.put, List.setIfInBounds_toArray, List.set_cons_zero, List.set_cons_succ]
  refine WL.val (by kernel_rfl) (.bool false) (by go_simp) ?_
  simp only [Act.put, List.setIfInBounds_toArray, List.set_cons_zero, List.set_cons_succ]
  refine WL.nil ?_
  refine hK1 _ _ ?_
  refine wp_seq_k fun K2 hK2 => ?_
  refine wp_region_list (WL.out ?_)
  refine WL.row (by kernel_rfl) 59 (.tmp 2) rfl w.heap.size rfl 59 (opA x) _ HB.out Try.underlying59 rfl (Try.size59B x) ?_
  simp only [Act.put, List.setIfInBounds_toArray, List.set_cons_zero, List.set_cons_succ]
  refine WL.new (by kernel_rfl) 59 rfl _ Try.new59 ?_
  simp only [Act.put, List.setIfInBounds_toArray, List.set_cons_zero, List.set_cons_succ]
  refine WL.storeR (by kernel_rfl) 59 (.tmp 5) (.tmp 8) rfl w1.heap.size (opA x) rfl rfl 59 (opA zeroOp) (Blk.new w1 59 _) (Try.size59B x) (opA_sizes _ _) (opA_one x) ?_
  have HX := Keep.mk ((Blk.new w1 59 (opA zeroOp)).setRow (opA x))
  have HW2 : Keep (Below w.heap.size w ((w1.alloc (.cells (opA zeroOp) 59)).setRow w1.heap.size (opA x))) := ⟨below_setRow (HW.out.alloc HW.out.size _) HW.out.size _⟩
  generalize (w1.alloc (.cells (opA zeroOp) 59)).setRow w1.heap.size (opA x) = w2 at *
  have c0 := HX.out.c 0 (opA_0 x)
  have f0 := HX.out.frozen 0
  simp only [Act.put]
  refine WL.nil ?_
  refine hK2 _ _ ?_
  refine wp_seq_k fun K3 hK3 => ?_
  refine wp_region_list (WL.out ?_)
  refine WL.val (by kernel_rfl) (.pointer (some ⟨w1.heap.size, 0, none⟩)) (by go_simp) ?_
  simp only [Act.put, List.setIfInBounds_toArray, List.set_cons_zero, List.set_cons_succ]
  refine WL.cell (by kernel_rfl) (w2.setCell ⟨w1.heap.size, 0, none⟩ (.int .i64 0)) (by go_simp) ?_
  have hX0 : Blk (w2.setCell ⟨w1.heap.size, 0, none⟩ (.int .i64 0)) w1.heap.size 59 (opA x0) := by rw [hx0]; have h := HX.out.set 0 (.int .i64 0); rw [set_0] at h; exact h
  have hB0 : Below w.heap.size w (w2.setCell ⟨w1.heap.size, 0, none⟩ (.int .i64 0)) := HW2.out.setCell HW.out.size _
  have hF0 := HF.out.below hB0
  generalize w2.setCell ⟨w1.heap.size, 0, none⟩ (.int .i64 0) = w3 at *
  clear c0 f0
  simp only [Act.put]
  refine WL.nil ?_
  refine hK3 _ _ ?_
  refine wp_seq_k fun K4 hK4 => ?_
  refine wp_seq_k fun K5 hK5 => ?_
  refine wp_region_list (WL.out ?_)
  refine WL.val (by kernel_rfl) (.slice va is.length vc) (by go_simp) ?_
  simp only [Act.put, List.setIfInBounds_toArray, List.set_cons_zero, List.set_cons_succ]
  refine WL.val (by kernel_rfl) (.int .i64 (is.length : Int)) (by go_simp) ?_
  simp only [Act.put, List.setIfInBounds_toArray, List.set_cons_zero, List.set_cons_succ]
  refine WL.val (by kernel_rfl) (.int .i64 0) (by go_simp) ?_
  simp only [Act.put, List.setIfInBounds_toArray, List.set_cons_zero, List.set_cons_succ]
  refine WL.nil ?_
  refine hK5 _ _ ?_
  refine wp_block ?_
  refine wp_loop (fun a wr => ∃ (t : Nat) (u7 u13 u14 u15 u16 u17 u18 u19 : Value), a = { tmps := #[.agg (opA x), .slice va is.length vc, .pointer (some ⟨w.heap.size, 0, none⟩), undef, .bool false, .pointer (some ⟨w1.heap.size, 0, none⟩), undef, u7, .agg (opA x), .pointer (some ⟨w1.heap.size, 0, none⟩), .slice va is.length vc, .int .i64 (is.length : Int), .int .i64 (t : Int), u13, u14, u15, u16, u17, u18, u19, undef, undef, undef, undef], defers := [] } ∧ t ≤ is.length ∧ Blk wr w1.heap.size 59 (opA (wipes (is.take t) x0)) ∧ FieldsAt wr (.slice va is.length vc) is ∧ Below w.heap.size w wr) (fun a _ => is.length - (intOf (a.tmps.getD 12 undef)).toNat) ⟨0, undef, undef, undef, undef, undef, undef, undef, undef, rfl, by omega, hX0, hF0, hB0⟩ ?_
  rintro a wr ⟨t, u7, u13, u14, u15, u16, u17, u18, u19, rfl, ht, hX, hF, hB⟩
  by_cases htl : t < is.length
  · have htl' : (t : Int) < (is.length : Int) := by omega
    obtain ⟨gF, rfl, hr⟩ := hF.at htl
    have hi4 := Hi.out _ (show is.getD t 0 ∈ is by simp [List.getD_eq_getElem?_getD, htl])
    have hnx := wipes_next is t htl x0
    obtain ⟨y, hy⟩ : ∃ y, y = wipes (is.take t) x0 := ⟨_, rfl⟩
    rw [← hy] at hX hnx
    have hg : w1.heap.size < wr.heap.size := hX.lt
    have hn1 : IntKind.i64.wrap ((t : Int) + 1) = (t : Int) + 1 := by rw [IntKind.wrap_i64]; have := Hn.out; omega
    have HFl := Keep.mk hF
    have HXl := Keep.mk hX
    have HBl := Keep.mk hB
    clear hF hX hB
    generalize is.getD t 0 = i at *
    rcases (show i = 0 ∨ i = 1 ∨ i = 2 ∨ i = 3 by omega) with rfl | rfl | rfl | rfl
    · refine wp_seq_k fun K6 hK6 => ?_
      refine wp_region_list (WL.out ?_)
      refine WL.val (by kernel_rfl) (.bool true) (by go_simp) ?_
      simp only [Act.put, List.setIfInBounds_toArray, List.set_cons_zero, List.set_cons_succ]
      refine WL.nil ?_
      refine hK6 _ _ ?_
      refine wp_seq_k fun K7 hK7 => ?_
      refine wp_cond_true rfl ?_
      refine wp_skip ?_
      refine hK7 _ _ ?_
      refine wp_seq_k fun K8 hK8 => ?_
      refine wp_block ?_
      refine wp_seq_k fun K9 hK9 => ?_
      refine wp_region_list (WL.out ?_)
      refine WL.val (by kernel_rfl) (.pointer (some ⟨gF, 0 + t * 3, none⟩)) (by go_simp) ?_
      simp only [Act.put, List.setIfInBounds_toArray, List.set_cons_zero, List.set_cons_succ]
      refine WL.midA (by kernel_rfl) 95 (.tmp 14) rfl gF (0 + t * 3) rfl (fldA 0) _ hr Try.underlying95 rfl (Try.size95B 0) ?_
      simp only [Act.put, List.setIfInBounds_toArray, List.set_cons_zero, List.set_cons_succ]
      refine WL.new (by kernel_rfl) 95 rfl _ Try.new95 ?_
      simp only [Act.put, List.setIfInBounds_toArray, List.set_cons_zero, List.set_cons_succ]
      refine WL.storeR (by kernel_rfl) 95 (.tmp 7) (.tmp 15) rfl wr.heap.size (fldA 0) rfl rfl 95 noF (Blk.new wr 95 noF) (Try.size95B 0) (noF_sizes 0) (fldA_one 0) ?_
      have HN := Keep.mk ((Blk.new wr 95 noF).setRow (fldA 0))
      have HX2 := Keep.mk ((HXl.out.alloc (.cells noF 95)).setRow_ne (b' := wr.heap.size) (by omega) (fldA 0))
      have HG2 : Keep (Below wr.heap.size wr ((wr.alloc (.cells noF 95)).setRow wr.heap.size (fldA 0))) := ⟨below_setRow (below_new wr _) (Nat.le_refl _) _⟩
      generalize (wr.alloc (.cells noF 95)).setRow wr.heap.size (fldA 0) = wq at *
      have cf : wq.cell? ⟨wr.heap.size, 0, none⟩ = some (fnv 63) := HN.out.c 0 rfl
      unfold fnv at cf
      simp only [Act.put]
      refine WL.nil ?_
      refine hK9 _ _ ?_
      refine wp_region_list (WL.out ?_)
      refine WL.val (by kernel_rfl) (.pointer (some ⟨wr.heap.size, 0, none⟩)) (by go_simp) ?_
      simp only [Act.put, List.setIfInBounds_toArray, List.set_cons_zero, List.set_cons_succ]
      refine WL.val (by kernel_rfl) (.func (.func 63) #[] #[]) (by go_simp) ?_
      simp only [Act.put, List.setIfInBounds_toArray, List.set_cons_zero, List.set_cons_succ]
      refine WL.callV (by kernel_rfl) 63 (.tmp 17) _ _ rfl rfl Try.in63 #[ptr w1.heap.size] (by simp [Act.eval]) ?_
      refine (wipe0_any w1.heap.size y wq HX2.out).mono ?_
      rintro e w5 ⟨rfl, h5, h6⟩
      refine ⟨_, rfl, ?_⟩
      have HX5 := Keep.mk h5
      have HG5 : Keep (Grown wr w5 fun k => k = w1.heap.size) := ⟨(Grown.below HG2.out).trans h6⟩
      clear h5 h6 cf
      simp only [Act.put, List.setIfInBounds_toArray, List.set_cons_zero, List.set_cons_succ]
      refine WL.nil ?_
      refine hK8 _ _ ?_
      refine wp_region_list (WL.out ?_)
      refine WL.val (by kernel_rfl) (.int .i64 ((t : Int) + 1)) (by go_simp) ?_
      simp only [Act.put, List.setIfInBounds_toArray, List.set_cons_zero, List.set_cons_succ]
      refine WL.val (by kernel_rfl) (.int .i64 ((t : Int) + 1)) (by go_simp) ?_
      simp only [Act.put, List.setIfInBounds_toArray, List.set_cons_zero, List.set_cons_succ]
      refine WL.nil ?_
      refine ⟨⟨t + 1, .pointer (some ⟨wr.heap.size, 0, none⟩), .bool true, .pointer (some ⟨gF, 0 + t * 3, none⟩), .agg (fldA 0), .pointer (some ⟨wr.heap.size, 0, none⟩), .func (.func 63) #[] #[], .tuple #[], .int .i64 ((t : Int) + 1), rfl, by omega, by rw [hnx]; exact HX5.out, HFl.out.grown HG5.out ?_, ?_⟩, ?_⟩
      · intro g hgb e; subst e; exact absurd (blk_type hgb HXl.out) (by decide)
      · exact ⟨HG5.out.os.trans HBl.out.os, HG5.out.tape.trans HBl.out.tape, HG5.out.output.trans HBl.out.output, Nat.le_trans HBl.out.size HG5.out.size, fun j hj => by rw [HG5.out.block j (Nat.lt_of_lt_of_le hj HBl.out.size) (by have := Hw1.out; omega)]; exact HBl.out.block j hj⟩
      · simp only [intOf]; show is.length - ((t : Int) + 1).toNat < is.length - ((t : Int)).toNat; omega
    · refine wp_seq_k fun K10 hK10 => ?_
      refine wp_region_list (WL.out ?_)
      refine WL.val (by kernel_rfl) (.bool true) (by go_simp) ?_
      simp only [Act.put, List.setIfInBounds_toArray, List.set_cons_zero, List.set_cons_succ]
      refine WL.nil ?_
      refine hK10 _ _ ?_
      refine wp_seq_k fun K11 hK11 => ?_
      refine wp_cond_true rfl ?_
      refine wp_skip ?_
      refine hK11 _ _ ?_
      refine wp_seq_k fun K12 hK12 => ?_
      refine wp_block ?_
      refine wp_seq_k fun K13 hK13 => ?_
      refine wp_region_list (WL.out ?_)
      refine WL.val (by kernel_rfl) (.pointer (some ⟨gF, 0 + t * 3, none⟩)) (by go_simp) ?_
      simp only [Act.put, List.setIfInBounds_toArray, List.set_cons_zero, List.set_cons_succ]
      refine WL.midA (by kernel_rfl) 95 (.tmp 14) rfl gF (0 + t * 3) rfl (fldA 1) _ hr Try.underlying95 rfl (Try.size95B 1) ?_
      simp only [Act.put, List.setIfInBounds_toArray, List.set_cons_zero, List.set_cons_succ]
      refine WL.new (by kernel_rfl) 95 rfl _ Try.new95 ?_
      simp only [Act.put, List.setIfInBounds_toArray, List.set_cons_zero, List.set_cons_succ]
      refine WL.storeR (by kernel_rfl) 95 (.tmp 7) (.tmp 15) rfl wr.heap.size (fldA 1) rfl rfl 95 noF (Blk.new wr 95 noF) (Try.size95B 1) (noF_sizes 1) (fldA_one 1) ?_
      have HN := Keep.mk ((Blk.new wr 95 noF).setRow (fldA 1))
      have HX2 := Keep.mk ((HXl.out.alloc (.cells noF 95)).setRow_ne (b' := wr.heap.size) (by omega) (fldA 1))
      have HG2 : Keep (Below wr.heap.size wr ((wr.alloc (.cells noF 95)).setRow wr.heap.size (fldA 1))) := ⟨below_setRow (below_new wr _) (Nat.le_refl _) _⟩
      generalize (wr.alloc (.cells noF 95)).setRow wr.heap.size (fldA 1) = wq at *
      have cf : wq.cell? ⟨wr.heap.size, 0, none⟩ = some (fnv 68) := HN.out.c 0 rfl
      unfold fnv at cf
      simp only [Act.put]
      refine WL.nil ?_
      refine hK13 _ _ ?_
      refine wp_region_list (WL.out ?_)
      refine WL.val (by kernel_rfl) (.pointer (some ⟨wr.heap.size, 0, none⟩)) (by go_simp) ?_
      simp only [Act.put, List.setIfInBounds_toArray, List.set_cons_zero, List.set_cons_succ]
      refine WL.val (by kernel_rfl) (.func (.func 68) #[] #[]) (by go_simp) ?_
      simp only [Act.put, List.setIfInBounds_toArray, List.set_cons_zero, List.set_cons_succ]
      refine WL.callV (by kernel_rfl) 68 (.tmp 17) _ _ rfl rfl Try.in68 #[ptr w1.heap.size] (by simp [Act.eval]) ?_
      refine (wipe1_any w1.heap.size y wq HX2.out).mono ?_
      rintro e w5 ⟨rfl, h5, h6⟩
      refine ⟨_, rfl, ?_⟩
      have HX5 := Keep.mk h5
      have HG5 : Keep (Grown wr w5 fun k => k = w1.heap.size) := ⟨(Grown.below HG2.out).trans h6⟩
      clear h5 h6 cf
      simp only [Act.put, List.setIfInBounds_toArray, List.set_cons_zero, List.set_cons_succ]
      refine WL.nil ?_
      refine hK12 _ _ ?_
      refine wp_region_list (WL.out ?_)
      refine WL.val (by kernel_rfl) (.int .i64 ((t : Int) + 1)) (by go_simp) ?_
      simp only [Act.put, List.setIfInBounds_toArray, List.set_cons_zero, List.set_cons_succ]
      refine WL.val (by kernel_rfl) (.int .i64 ((t : Int) + 1)) (by go_simp) ?_
      simp only [Act.put, List.setIfInBounds_toArray, List.set_cons_zero, List.set_cons_succ]
      refine WL.nil ?_
      refine ⟨⟨t + 1, .pointer (some ⟨wr.heap.size, 0, none⟩), .bool true, .pointer (some ⟨gF, 0 + t * 3, none⟩), .agg (fldA 1), .pointer (some ⟨wr.heap.size, 0, none⟩), .func (.func 68) #[] #[], .tuple #[], .int .i64 ((t : Int) + 1), rfl, by omega, by rw [hnx]; exact HX5.out, HFl.out.grown HG5.out ?_, ?_⟩, ?_⟩
      · intro g hgb e; subst e; exact absurd (blk_type hgb HXl.out) (by decide)
      · exact ⟨HG5.out.os.trans HBl.out.os, HG5.out.tape.trans HBl.out.tape, HG5.out.output.trans HBl.out.output, Nat.le_trans HBl.out.size HG5.out.size, fun j hj => by rw [HG5.out.block j (Nat.lt_of_lt_of_le hj HBl.out.size) (by have := Hw1.out; omega)]; exact HBl.out.block j hj⟩
      · simp only [intOf]; show is.length - ((t : Int) + 1).toNat < is.length - ((t : Int)).toNat; omega
    · refine wp_seq_k fun K14 hK14 => ?_
      refine wp_region_list (WL.out ?_)
      refine WL.val (by kernel_rfl) (.bool true) (by go_simp) ?_
      simp only [Act.put, List.setIfInBounds_toArray, List.set_cons_zero, List.set_cons_succ]
      refine WL.nil ?_
      refine hK14 _ _ ?_
      refine wp_seq_k fun K15 hK15 => ?_
      refine wp_cond_true rfl ?_
      refine wp_skip ?_
      refine hK15 _ _ ?_
      refine wp_seq_k fun K16 hK16 => ?_
      refine wp_block ?_
      refine wp_seq_k fun K17 hK17 => ?_
      refine wp_region_list (WL.out ?_)
      refine WL.val (by kernel_rfl) (.pointer (some ⟨gF, 0 + t * 3, none⟩)) (by go_simp) ?_
      simp only [Act.put, List.setIfInBounds_toArray, List.set_cons_zero, List.set_cons_succ]
      refine WL.midA (by kernel_rfl) 95 (.tmp 14) rfl gF (0 + t * 3) rfl (fldA 2) _ hr Try.underlying95 rfl (Try.size95B 2) ?_
      simp only [Act.put, List.setIfInBounds_toArray, List.set_cons_zero, List.set_cons_succ]
      refine WL.new (by kernel_rfl) 95 rfl _ Try.new95 ?_
      simp only [Act.put, List.setIfInBounds_toArray, List.set_cons_zero, List.set_cons_succ]
      refine WL.storeR (by kernel_rfl) 95 (.tmp 7) (.tmp 15) rfl wr.heap.size (fldA 2) rfl rfl 95 noF (Blk.new wr 95 noF) (Try.size95B 2) (noF_sizes 2) (fldA_one 2) ?_
      have HN := Keep.mk ((Blk.new wr 95 noF).setRow (fldA 2))
      have HX2 := Keep.mk ((HXl.out.alloc (.cells noF 95)).setRow_ne (b' := wr.heap.size) (by omega) (fldA 2))
      have HG2 : Keep (Below wr.heap.size wr ((wr.alloc (.cells noF 95)).setRow wr.heap.size (fldA 2))) := ⟨below_setRow (below_new wr _) (Nat.le_refl _) _⟩
      generalize (wr.alloc (.cells noF 95)).setRow wr.heap.size (fldA 2) = wq at *
      have cf : wq.cell? ⟨wr.heap.size, 0, none⟩ = some (fnv 71) := HN.out.c 0 rfl
      unfold fnv at cf
      simp only [Act.put]
      refine WL.nil ?_
      refine hK17 _ _ ?_
      refine wp_region_list (WL.out ?_)
      refine WL.val (by kernel_rfl) (.pointer (some ⟨wr.heap.size, 0, none⟩)) (by go_simp) ?_
      simp only [Act.put, List.setIfInBounds_toArray, List.set_cons_zero, List.set_cons_succ]
      refine WL.val (by kernel_rfl) (.func (.func 71) #[] #[]) (by go_simp) ?_
      simp only [Act.put, List.setIfInBounds_toArray, List.set_cons_zero, List.set_cons_succ]
      refine WL.callV (by kernel_rfl) 71 (.tmp 17) _ _ rfl rfl Try.in71 #[ptr w1.heap.size] (by simp [Act.eval]) ?_
      refine (wipe2_any w1.heap.size y wq HX2.out).mono ?_
      rintro e w5 ⟨rfl, h5, h6⟩
      refine ⟨_, rfl, ?_⟩
      have HX5 := Keep.mk h5
      have HG5 : Keep (Grown wr w5 fun k => k = w1.heap.size) := ⟨(Grown.below HG2.out).trans h6⟩
      clear h5 h6 cf
      simp only [Act.put, List.setIfInBounds_toArray, List.set_cons_zero, List.set_cons_succ]
      refine WL.nil ?_
      refine hK16 _ _ ?_
      refine wp_region_list (WL.out ?_)
      refine WL.val (by kernel_rfl) (.int .i64 ((t : Int) + 1)) (by go_simp) ?_
      simp only [Act.put, List.setIfInBounds_toArray, List.set_cons_zero, List.set_cons_succ]
      refine WL.val (by kernel_rfl) (.int .i64 ((t : Int) + 1)) (by go_simp) ?_
      simp only [Act.put, List.setIfInBounds_toArray, List.set_cons_zero, List.set_cons_succ]
      refine WL.nil ?_
      refine ⟨⟨t + 1, .pointer (some ⟨wr.heap.size, 0, none⟩), .bool true, .pointer (some ⟨gF, 0 + t * 3, none⟩), .agg (fldA 2), .pointer (some ⟨wr.heap.size, 0, none⟩), .func (.func 71) #[] #[], .tuple #[], .int .i64 ((t : Int) + 1), rfl, by omega, by rw [hnx]; exact HX5.out, HFl.out.grown HG5.out ?_, ?_⟩, ?_⟩
      · intro g hgb e; subst e; exact absurd (blk_type hgb HXl.out) (by decide)
      · exact ⟨HG5.out.os.trans HBl.out.os, HG5.out.tape.trans HBl.out.tape, HG5.out.output.trans HBl.out.output, Nat.le_trans HBl.out.size HG5.out.size, fun j hj => by rw [HG5.out.block j (Nat.lt_of_lt_of_le hj HBl.out.size) (by have := Hw1.out; omega)]; exact HBl.out.block j hj⟩
      · simp only [intOf]; show is.length - ((t : Int) + 1).toNat < is.length - ((t : Int)).toNat; omega
    · refine wp_seq_k fun K18 hK18 => ?_
      refine wp_region_list (WL.out ?_)
      refine WL.val (by kernel_rfl) (.bool true) (by go_simp) ?_
      simp only [Act.put, List.setIfInBounds_toArray, List.set_cons_zero, List.set_cons_succ]
      refine WL.nil ?_
      refine hK18 _ _ ?_
      refine wp_seq_k fun K19 hK19 => ?_
      refine wp_cond_true rfl ?_
      refine wp_skip ?_
      refine hK19 _ _ ?_
      refine wp_seq_k fun K20 hK20 => ?_
      refine wp_block ?_
      refine wp_seq_k fun K21 hK21 => ?_
      refine wp_region_list (WL.out ?_)
      refine WL.val (by kernel_rfl) (.pointer (some ⟨gF, 0 + t * 3, none⟩)) (by go_simp) ?_
      simp only [Act.put, List.setIfInBounds_toArray, List.set_cons_zero, List.set_cons_succ]
      refine WL.midA (by kernel_rfl) 95 (.tmp 14) rfl gF (0 + t * 3) rfl (fldA 3) _ hr Try.underlying95 rfl (Try.size95B 3) ?_
      simp only [Act.put, List.setIfInBounds_toArray, List.set_cons_zero, List.set_cons_succ]
      refine WL.new (by kernel_rfl) 95 rfl _ Try.new95 ?_
      simp only [Act.put, List.setIfInBounds_toArray, List.set_cons_zero, List.set_cons_succ]
      refine WL.storeR (by kernel_rfl) 95 (.tmp 7) (.tmp 15) rfl wr.heap.size (fldA 3) rfl rfl 95 noF (Blk.new wr 95 noF) (Try.size95B 3) (noF_sizes 3) (fldA_one 3) ?_
      have HN := Keep.mk ((Blk.new wr 95 noF).setRow (fldA 3))
      have HX2 := Keep.mk ((HXl.out.alloc (.cells noF 95)).setRow_ne (b' := wr.heap.size) (by omega) (fldA 3))
      have HG2 : Keep (Below wr.heap.size wr ((wr.alloc (.cells noF 95)).setRow wr.heap.size (fldA 3))) := ⟨below_setRow (below_new wr _) (Nat.le_refl _) _⟩
      generalize (wr.alloc (.cells noF 95)).setRow wr.heap.size (fldA 3) = wq at *
      have cf : wq.cell? ⟨wr.heap.size, 0, none⟩ = some (fnv 76) := HN.out.c 0 rfl
      unfold fnv at cf
      simp only [Act.put]
      refine WL.nil ?_
      refine hK21 _ _ ?_
      refine wp_region_list (WL.out ?_)
      refine WL.val (by kernel_rfl) (.pointer (some ⟨wr.heap.size, 0, none⟩)) (by go_simp) ?_
      simp only [Act.put, List.setIfInBounds_toArray, List.set_cons_zero, List.set_cons_succ]
      refine WL.val (by kernel_rfl) (.func (.func 76) #[] #[]) (by go_simp) ?_
      simp only [Act.put, List.setIfInBounds_toArray, List.set_cons_zero, List.set_cons_succ]
      refine WL.callV (by kernel_rfl) 76 (.tmp 17) _ _ rfl rfl Try.in76 #[ptr w1.heap.size] (by simp [Act.eval]) ?_
      refine (wipe3_any w1.heap.size y wq HX2.out).mono ?_
      rintro e w5 ⟨rfl, h5, h6⟩
      refine ⟨_, rfl, ?_⟩
      have HX5 := Keep.mk h5
      have HG5 : Keep (Grown wr w5 fun k => k = w1.heap.size) := ⟨(Grown.below HG2.out).trans h6⟩
      clear h5 h6 cf
      simp only [Act.put, List.setIfInBounds_toArray, List.set_cons_zero, List.set_cons_succ]
      refine WL.nil ?_
      refine hK20 _ _ ?_
      refine wp_region_list (WL.out ?_)
      refine WL.val (by kernel_rfl) (.int .i64 ((t : Int) + 1)) (by go_simp) ?_
      simp only [Act.put, List.setIfInBounds_toArray, List.set_cons_zero, List.set_cons_succ]
      refine WL.val (by kernel_rfl) (.int .i64 ((t : Int) + 1)) (by go_simp) ?_
      simp only [Act.put, List.setIfInBounds_toArray, List.set_cons_zero, List.set_cons_succ]
      refine WL.nil ?_
      refine ⟨⟨t + 1, .pointer (some ⟨wr.heap.size, 0, none⟩), .bool true, .pointer (some ⟨gF, 0 + t * 3, none⟩), .agg (fldA 3), .pointer (some ⟨wr.heap.size, 0, none⟩), .func (.func 76) #[] #[], .tuple #[], .int .i64 ((t : Int) + 1), rfl, by omega, by rw [hnx]; exact HX5.out, HFl.out.grown HG5.out ?_, ?_⟩, ?_⟩
      · intro g hgb e; subst e; exact absurd (blk_type hgb HXl.out) (by decide)
      · exact ⟨HG5.out.os.trans HBl.out.os, HG5.out.tape.trans HBl.out.tape, HG5.out.output.trans HBl.out.output, Nat.le_trans HBl.out.size HG5.out.size, fun j hj => by rw [HG5.out.block j (Nat.lt_of_lt_of_le hj HBl.out.size) (by have := Hw1.out; omega)]; exact HBl.out.block j hj⟩
      · simp only [intOf]; show is.length - ((t : Int) + 1).toNat < is.length - ((t : Int)).toNat; omega
  · obtain rfl : t = is.length := by omega
    have htl' : ¬ (is.length : Int) < (is.length : Int) := by omega
    rw [List.take_length] at hX
    obtain ⟨y, hy⟩ : ∃ y, y = wipes is x0 := ⟨_, rfl⟩
    rw [← hy] at hX ⊢
    refine wp_seq_k fun K22 hK22 => ?_
    refine wp_region_list (WL.out ?_)
    refine WL.val (by kernel_rfl) (.bool false) (by go_simp) ?_
    simp only [Act.put, List.setIfInBounds_toArray, List.set_cons_zero, List.set_cons_succ]
    refine WL.nil ?_
    refine hK22 _ _ ?_
    refine wp_seq_k fun K23 hK23 => ?_
    refine wp_cond_false rfl ?_
    refine wp_exit ?_
    refine hK4 _ _ ?_
    refine wp_seq_k fun K24 hK24 => ?_
    refine wp_region_list (WL.out ?_)
    refine WL.row (by kernel_rfl) 59 (.tmp 5) rfl w1.heap.size rfl 59 (opA y) _ hX Try.underlying59 rfl (Try.size59B y) ?_
    simp only [Act.put, List.setIfInBounds_toArray, List.set_cons_zero, List.set_cons_succ]
    refine WL.bld (by kernel_rfl) 59 _ rfl [] (by simp) (opA zeroOp) Try.built59 ?_
    simp only [Act.put, List.setIfInBounds_toArray, List.set_cons_zero, List.set_cons_succ]
    refine WL.callF (by kernel_rfl) 23 _ _ rfl Try.in23 #[.agg (opA y), .agg (opA zeroOp)] (by simp [Act.eval]) ?_
    refine (same_any y zeroOp wr).mono ?_
    rintro e w5 ⟨rfl, h5⟩
    refine ⟨_, rfl, ?_⟩
    simp only [Act.put, List.setIfInBounds_toArray, List.set_cons_zero, List.set_cons_succ]
    refine WL.val (by kernel_rfl) (.bool (!sm y zeroOp)) (by go_simp) ?_
    simp only [Act.put, List.setIfInBounds_toArray, List.set_cons_zero, List.set_cons_succ]
    refine WL.val (by kernel_rfl) (.bool (!sm y zeroOp)) (by go_simp) ?_
    simp only [Act.put, List.setIfInBounds_toArray, List.set_cons_zero, List.set_cons_succ]
    refine WL.nil ?_
    refine hK24 _ _ ?_
    refine wp_ret ?_
    go_ret
    exact ⟨by rw [← hy]; rfl, hB.trans (h5.mono hB.size)⟩
def wrongV (l : List OpV) (x : OpV) : Int :=
  if hasI x.kind = [] then 40 else if 65536 < x.key.size then 4 else if 65536 < x.text.size then 4 else if sm (wipes (hasI x.kind) { x with kind := 0 }) zeroOp = false then 41 else if cellV x.kind = 4 then (if mayAt l x = true then 0 else 42) else 0
theorem hasI_lt (k : Int) : ∀ i ∈ hasI k, i < 4 := by
  by_cases h : k ∈ ([1, 2, 3, 4, 5, 6, 7, 8, 9] : List Int)
  · simp only [List.mem_cons, List.not_mem_nil, or_false] at h
    rcases h with rfl | rfl | rfl | rfl | rfl | rfl | rfl | rfl | rfl <;> decide
  · rw [hasI_none k h]; simp
theorem hasI_len (k : Int) : (hasI k).length ≤ 3 := by
  by_cases h : k ∈ ([1, 2, 3, 4, 5, 6, 7, 8, 9] : List Int)
  · simp only [List.mem_cons, List.not_mem_nil, or_false] at h
    rcases h with rfl | rfl | rfl | rfl | rfl | rfl | rfl | rfl | rfl <;> decide
  · rw [hasI_none k h]; simp
set_option maxRecDepth 8000 in
set_option maxHeartbeats 1000000 in
theorem wrong_any (x : OpV) (v vl : Value) (l : List OpV) (w : World) (hF : FieldsAt w v (hasI x.kind)) (hx : OpOk x) (hl : OpsAt w vl l) (hb : l.length ≤ 4398046511104) :
    Calls Try.prog 39 #[.agg (opA x), v, vl] w fun e w' => e = .returned (.int .i64 (wrongV l x)) ∧ Below w.heap.size w w' := by
  obtain ⟨va, vc, rfl⟩ := hF.form
  obtain ⟨la, lc, rfl⟩ := hl.form
  have HF := Keep.mk hF
  have Hx := Keep.mk hx
  have HL := Keep.mk hl
  have Hl := Keep.mk hb
  have HB := Keep.mk (Blk.new w 59 (opA x))
  have HW := Keep.mk (below_new w (.cells (opA x) 59))
  obtain ⟨w1, hw1⟩ : ∃ w1, Keep (w.alloc (.cells (opA x) 59) = w1) := ⟨_, ⟨rfl⟩⟩
  rw [hw1.out] at HB HW
  have c0 := HB.out.c 0 (opA_0 x)
  have c1 := HB.out.c 1 (opA_1 x)
  have c2 := HB.out.c 2 (opA_2 x)
  have hk1 : (x.key.size : Int) ≤ 9223372036854775807 := by have := hx.key; omega
  have hk2 : (x.text.size : Int) ≤ 9223372036854775807 := by have := hx.text; omega
  obtain ⟨R, hR⟩ : ∃ R, R = wrongV l x := ⟨_, rfl⟩
  rw [← hR]
  unfold wrongV at hR
  have HR := Keep.mk hR
  have hI3 := hasI_len x.kind
  clear hF hx hl hb hR
  go_enter Try.func39, Try.ntmps39
  by_cases hA : hasI x.kind = []
  · rw [if_pos hA] at HR
    have hA0 : (hasI x.kind).length = 0 := by rw [hA]; rfl
    refine wp_seq_k fun K1 hK1 => ?_
    refine wp_region_list (WL.out ?_)
    refine WL.box (by kernel_rfl) 59 (.tmp 0) rfl (opA x) rfl ?_
    rw [hw1.out]
    simp only [Act.put, List.setIfInBounds_toArray, List.set_cons_zero, List.set_cons_succ]
    refine WL.val (by kernel_rfl) (.int .i64 0) (by go_simp) ?_
    simp only [Act.put, List.setIfInBounds_toArray, List.set_cons_zero, List.set_cons_succ]
    refine WL.nil ?_
    refine hK1 _ _ ?_
    refine wp_seq_k fun K2 hK2 => ?_
    refine wp_block ?_
    refine wp_seq_k fun K3 hK3 => ?_
    refine wp_region_list (WL.out ?_)
    refine WL.val (by kernel_rfl) (.slice va (hasI x.kind).length vc) (by go_simp) ?_
    simp only [Act.put, List.setIfInBounds_toArray, List.set_cons_zero, List.set_cons_succ]
    refine WL.val (by kernel_rfl) (.int .i64 ((hasI x.kind).length : Int)) (by go_simp) ?_
    simp only [Act.put, List.setIfInBounds_toArray, List.set_cons_zero, List.set_cons_succ]
    refine WL.val (by kernel_rfl) (.bool true) (by go_simp) ?_
    simp only [Act.put, List.setIfInBounds_toArray, List.set_cons_zero, List.set_cons_succ]
    refine WL.val (by kernel_rfl) (.bool true) (by go_simp) ?_
    simp only [Act.put, List.setIfInBounds_toArray, List.set_cons_zero, List.set_cons_succ]
    refine WL.nil ?_
    refine hK3 _ _ ?_
    refine wp_cond_true rfl ?_
    refine wp_seq_k fun K4 hK4 => ?_
    refine wp_region_list (WL.out ?_)
    refine WL.val (by kernel_rfl) (.int .i64 40) (by go_simp) ?_
    simp only [Act.put, List.setIfInBounds_toArray, List.set_cons_zero, List.set_cons_succ]
    refine WL.nil ?_
    refine hK4 _ _ ?_
    refine wp_ret ?_
    go_ret
    exact ⟨by rw [HR.out]; rfl, HW.out⟩
  · rw [if_neg hA] at HR
    have hA0 : (hasI x.kind).length ≠ 0 := fun e => hA (List.eq_nil_of_length_eq_zero e)
    have hA1 : ¬ ((hasI x.kind).length : Int) = 0 := by omega
    by_cases hB1 : 65536 < x.key.size
    · rw [if_pos hB1] at HR
      have hB1' : (65536 : Int) < (x.key.size : Int) := by omega
      refine wp_seq_k fun K1 hK1 => ?_
      refine wp_region_list (WL.out ?_)
      refine WL.box (by kernel_rfl) 59 (.tmp 0) rfl (opA x) rfl ?_
      rw [hw1.out]
      simp only [Act.put, List.setIfInBounds_toArray, List.set_cons_zero, List.set_cons_succ]
      refine WL.val (by kernel_rfl) (.int .i64 0) (by go_simp) ?_
      simp only [Act.put, List.setIfInBounds_toArray, List.set_cons_zero, List.set_cons_succ]
      refine WL.nil ?_
      refine hK1 _ _ ?_
      refine wp_seq_k fun K2 hK2 => ?_
      refine wp_block ?_
      refine wp_seq_k fun K3 hK3 => ?_
      refine wp_region_list (WL.out ?_)
      refine WL.val (by kernel_rfl) (.slice va (hasI x.kind).length vc) (by go_simp) ?_
      simp only [Act.put, List.setIfInBounds_toArray, List.set_cons_zero, List.set_cons_succ]
      refine WL.val (by kernel_rfl) (.int .i64 ((hasI x.kind).length : Int)) (by go_simp) ?_
      simp only [Act.put, List.setIfInBounds_toArray, List.set_cons_zero, List.set_cons_succ]
      refine WL.val (by kernel_rfl) (.bool false) (by go_simp) ?_
      simp only [Act.put, List.setIfInBounds_toArray, List.set_cons_zero, List.set_cons_succ]
      refine WL.val (by kernel_rfl) (.bool false) (by go_simp) ?_
      simp only [Act.put, List.setIfInBounds_toArray, List.set_cons_zero, List.set_cons_succ]
      refine WL.nil ?_
      refine hK3 _ _ ?_
      refine wp_cond_false rfl ?_
      refine wp_seq_k fun K4 hK4 => ?_
      refine wp_region_list (WL.out ?_)
      refine WL.val (by kernel_rfl) (.pointer (some ⟨w.heap.size, 1, none⟩)) (by go_simp) ?_
      simp only [Act.put, List.setIfInBounds_toArray, List.set_cons_zero, List.set_cons_succ]
      refine WL.val (by kernel_rfl) (.string x.key) (by go_simp) ?_
      simp only [Act.put, List.setIfInBounds_toArray, List.set_cons_zero, List.set_cons_succ]
      refine WL.val (by kernel_rfl) (.int .i64 (x.key.size : Int)) (by go_simp) ?_
      simp only [Act.put, List.setIfInBounds_toArray, List.set_cons_zero, List.set_cons_succ]
      refine WL.val (by kernel_rfl) (.bool true) (by go_simp) ?_
      simp only [Act.put, List.setIfInBounds_toArray, List.set_cons_zero, List.set_cons_succ]
      refine WL.val (by kernel_rfl) (.bool true) (by go_simp) ?_
      simp only [Act.put, List.setIfInBounds_toArray, List.set_cons_zero, List.set_cons_succ]
      refine WL.skip (by kernel_rfl) ?_
      simp only [Act.put, List.setIfInBounds_toArray, List.set_cons_zero, List.set_cons_succ]
      refine WL.skip (by kernel_rfl) ?_
      simp only [Act.put, List.setIfInBounds_toArray, List.set_cons_zero, List.set_cons_succ]
      refine WL.skip (by kernel_rfl) ?_
      simp only [Act.put, List.setIfInBounds_toArray, List.set_cons_zero, List.set_cons_succ]
      refine WL.skip (by kernel_rfl) ?_
      simp only [Act.put, List.setIfInBounds_toArray, List.set_cons_zero, List.set_cons_succ]
      refine WL.val (by kernel_rfl) (.bool true) (by go_simp) ?_
      simp only [Act.put, List.setIfInBounds_toArray, List.set_cons_zero, List.set_cons_succ]
      refine WL.val (by kernel_rfl) (.bool true) (by go_simp) ?_
      simp only [Act.put, List.setIfInBounds_toArray, List.set_cons_zero, List.set_cons_succ]
      refine WL.nil ?_
      refine hK4 _ _ ?_
      refine wp_cond_true rfl ?_
      refine wp_seq_k fun K5 hK5 => ?_
      refine wp_region_list (WL.out ?_)
      refine WL.val (by kernel_rfl) (.int .i64 4) (by go_simp) ?_
      simp only [Act.put, List.setIfInBounds_toArray, List.set_cons_zero, List.set_cons_succ]
      refine WL.nil ?_
      refine hK5 _ _ ?_
      refine wp_ret ?_
      go_ret
      exact ⟨by rw [HR.out]; rfl, HW.out⟩
    · rw [if_neg hB1] at HR
      have hB1' : ¬ (65536 : Int) < (x.key.size : Int) := by omega
      by_cases hB2 : 65536 < x.text.size
      · rw [if_pos hB2] at HR
        have hB2' : (65536 : Int) < (x.text.size : Int) := by omega
        refine wp_seq_k fun K1 hK1 => ?_
        refine wp_region_list (WL.out ?_)
        refine WL.box (by kernel_rfl) 59 (.tmp 0) rfl (opA x) rfl ?_
        rw [hw1.out]
        simp only [Act.put, List.setIfInBounds_toArray, List.set_cons_zero, List.set_cons_succ]
        refine WL.val (by kernel_rfl) (.int .i64 0) (by go_simp) ?_
        simp only [Act.put, List.setIfInBounds_toArray, List.set_cons_zero, List.set_cons_succ]
        refine WL.nil ?_
        refine hK1 _ _ ?_
        refine wp_seq_k fun K2 hK2 => ?_
        refine wp_block ?_
        refine wp_seq_k fun K3 hK3 => ?_
        refine wp_region_list (WL.out ?_)
        refine WL.val (by kernel_rfl) (.slice va (hasI x.kind).length vc) (by go_simp) ?_
        simp only [Act.put, List.setIfInBounds_toArray, List.set_cons_zero, List.set_cons_succ]
        refine WL.val (by kernel_rfl) (.int .i64 ((hasI x.kind).length : Int)) (by go_simp) ?_
        simp only [Act.put, List.setIfInBounds_toArray, List.set_cons_zero, List.set_cons_succ]
        refine WL.val (by kernel_rfl) (.bool false) (by go_simp) ?_
        simp only [Act.put, List.setIfInBounds_toArray, List.set_cons_zero, List.set_cons_succ]
        refine WL.val (by kernel_rfl) (.bool false) (by go_simp) ?_
        simp only [Act.put, List.setIfInBounds_toArray, List.set_cons_zero, List.set_cons_succ]
        refine WL.nil ?_
        refine hK3 _ _ ?_
        refine wp_cond_false rfl ?_
        refine wp_seq_k fun K4 hK4 => ?_
        refine wp_region_list (WL.out ?_)
        refine WL.val (by kernel_rfl) (.pointer (some ⟨w.heap.size, 1, none⟩)) (by go_simp) ?_
        simp only [Act.put, List.setIfInBounds_toArray, List.set_cons_zero, List.set_cons_succ]
        refine WL.val (by kernel_rfl) (.string x.key) (by go_simp) ?_
        simp only [Act.put, List.setIfInBounds_toArray, List.set_cons_zero, List.set_cons_succ]
        refine WL.val (by kernel_rfl) (.int .i64 (x.key.size : Int)) (by go_simp) ?_
        simp only [Act.put, List.setIfInBounds_toArray, List.set_cons_zero, List.set_cons_succ]
        refine WL.val (by kernel_rfl) (.bool false) (by go_simp) ?_
        simp only [Act.put, List.setIfInBounds_toArray, List.set_cons_zero, List.set_cons_succ]
        refine WL.val (by kernel_rfl) (.bool false) (by go_simp) ?_
        simp only [Act.put, List.setIfInBounds_toArray, List.set_cons_zero, List.set_cons_succ]
        refine WL.val (by kernel_rfl) (.pointer (some ⟨w.heap.size, 2, none⟩)) (by go_simp) ?_
        simp only [Act.put, List.setIfInBounds_toArray, List.set_cons_zero, List.set_cons_succ]
        refine WL.val (by kernel_rfl) (.string x.text) (by go_simp) ?_
        simp only [Act.put, List.setIfInBounds_toArray, List.set_cons_zero, List.set_cons_succ]
        refine WL.val (by kernel_rfl) (.int .i64 (x.text.size : Int)) (by go_simp) ?_
        simp only [Act.put, List.setIfInBounds_toArray, List.set_cons_zero, List.set_cons_succ]
        refine WL.val (by kernel_rfl) (.bool true) (by go_simp) ?_
        simp only [Act.put, List.setIfInBounds_toArray, List.set_cons_zero, List.set_cons_succ]
        refine WL.val (by kernel_rfl) (.bool true) (by go_simp) ?_
        simp only [Act.put, List.setIfInBounds_toArray, List.set_cons_zero, List.set_cons_succ]
        refine WL.val (by kernel_rfl) (.bool true) (by go_simp) ?_
        simp only [Act.put, List.setIfInBounds_toArray, List.set_cons_zero, List.set_cons_succ]
        refine WL.nil ?_
        refine hK4 _ _ ?_
        refine wp_cond_true rfl ?_
        refine wp_seq_k fun K5 hK5 => ?_
        refine wp_region_list (WL.out ?_)
        refine WL.val (by kernel_rfl) (.int .i64 4) (by go_simp) ?_
        simp only [Act.put, List.setIfInBounds_toArray, List.set_cons_zero, List.set_cons_succ]
        refine WL.nil ?_
        refine hK5 _ _ ?_
        refine wp_ret ?_
        go_ret
        exact ⟨by rw [HR.out]; rfl, HW.out⟩
      · rw [if_neg hB2] at HR
        have hB2' : ¬ (65536 : Int) < (x.text.size : Int) := by omega
        cases hs : sm (wipes (hasI x.kind) { x with kind := 0 }) zeroOp with
        | false =>
          rw [if_pos hs] at HR
          have hS : (!sm (wipes (hasI x.kind) { x with kind := 0 }) zeroOp) = true := by rw [hs]; rfl
          refine wp_seq_k fun K1 hK1 => ?_
          refine wp_region_list (WL.out ?_)
          refine WL.box (by kernel_rfl) 59 (.tmp 0) rfl (opA x) rfl ?_
          rw [hw1.out]
          simp only [Act.put, List.setIfInBounds_toArray, List.set_cons_zero, List.set_cons_succ]
          refine WL.val (by kernel_rfl) (.int .i64 0) (by go_simp) ?_
          simp only [Act.put, List.setIfInBounds_toArray, List.set_cons_zero, List.set_cons_succ]
          refine WL.nil ?_
          refine hK1 _ _ ?_
          refine wp_seq_k fun K2 hK2 => ?_
          refine wp_block ?_
          refine wp_seq_k fun K3 hK3 => ?_
          refine wp_region_list (WL.out ?_)
          refine WL.val (by kernel_rfl) (.slice va (hasI x.kind).length vc) (by go_simp) ?_
          simp only [Act.put, List.setIfInBounds_toArray, List.set_cons_zero, List.set_cons_succ]
          refine WL.val (by kernel_rfl) (.int .i64 ((hasI x.kind).length : Int)) (by go_simp) ?_
          simp only [Act.put, List.setIfInBounds_toArray, List.set_cons_zero, List.set_cons_succ]
          refine WL.val (by kernel_rfl) (.bool false) (by go_simp) ?_
          simp only [Act.put, List.setIfInBounds_toArray, List.set_cons_zero, List.set_cons_succ]
          refine WL.val (by kernel_rfl) (.bool false) (by go_simp) ?_
          simp only [Act.put, List.setIfInBounds_toArray, List.set_cons_zero, List.set_cons_succ]
          refine WL.nil ?_
          refine hK3 _ _ ?_
          refine wp_cond_false rfl ?_
          refine wp_seq_k fun K4 hK4 => ?_
          refine wp_region_list (WL.out ?_)
          refine WL.val (by kernel_rfl) (.pointer (some ⟨w.heap.size, 1, none⟩)) (by go_simp) ?_
          simp only [Act.put, List.setIfInBounds_toArray, List.set_cons_zero, List.set_cons_succ]
          refine WL.val (by kernel_rfl) (.string x.key) (by go_simp) ?_
          simp only [Act.put, List.setIfInBounds_toArray, List.set_cons_zero, List.set_cons_succ]
          refine WL.val (by kernel_rfl) (.int .i64 (x.key.size : Int)) (by go_simp) ?_
          simp only [Act.put, List.setIfInBounds_toArray, List.set_cons_zero, List.set_cons_succ]
          refine WL.val (by kernel_rfl) (.bool false) (by go_simp) ?_
          simp only [Act.put, List.setIfInBounds_toArray, List.set_cons_zero, List.set_cons_succ]
          refine WL.val (by kernel_rfl) (.bool false) (by go_simp) ?_
          simp only [Act.put, List.setIfInBounds_toArray, List.set_cons_zero, List.set_cons_succ]
          refine WL.val (by kernel_rfl) (.pointer (some ⟨w.heap.size, 2, none⟩)) (by go_simp) ?_
          simp only [Act.put, List.setIfInBounds_toArray, List.set_cons_zero, List.set_cons_succ]
          refine WL.val (by kernel_rfl) (.string x.text) (by go_simp) ?_
          simp only [Act.put, List.setIfInBounds_toArray, List.set_cons_zero, List.set_cons_succ]
          refine WL.val (by kernel_rfl) (.int .i64 (x.text.size : Int)) (by go_simp) ?_
          simp only [Act.put, List.setIfInBounds_toArray, List.set_cons_zero, List.set_cons_succ]
          refine WL.val (by kernel_rfl) (.bool false) (by go_simp) ?_
          simp only [Act.put, List.setIfInBounds_toArray, List.set_cons_zero, List.set_cons_succ]
          refine WL.val (by kernel_rfl) (.bool false) (by go_simp) ?_
          simp only [Act.put, List.setIfInBounds_toArray, List.set_cons_zero, List.set_cons_succ]
          refine WL.val (by kernel_rfl) (.bool false) (by go_simp) ?_
          simp only [Act.put, List.setIfInBounds_toArray, List.set_cons_zero, List.set_cons_succ]
          refine WL.nil ?_
          refine hK4 _ _ ?_
          refine wp_cond_false rfl ?_
          refine wp_seq_k fun K5 hK5 => ?_
          refine wp_region_list (WL.out ?_)
          refine WL.row (by kernel_rfl) 59 (.tmp 3) rfl w.heap.size rfl 59 (opA x) _ HB.out Try.underlying59 rfl (Try.size59B x) ?_
          simp only [Act.put, List.setIfInBounds_toArray, List.set_cons_zero, List.set_cons_succ]
          refine WL.val (by kernel_rfl) (.slice va (hasI x.kind).length vc) (by go_simp) ?_
          simp only [Act.put, List.setIfInBounds_toArray, List.set_cons_zero, List.set_cons_succ]
          refine WL.callF (by kernel_rfl) 59 _ _ rfl Try.in59 #[.agg (opA x), .slice va (hasI x.kind).length vc] (by simp [Act.eval]) ?_
          refine (other_any x _ (hasI x.kind) w1 (HF.out.below HW.out) (hasI_lt _) (hasI_len _)).mono ?_
          rintro e w2 ⟨rfl, h2⟩
          rw [hS]
          refine ⟨_, rfl, ?_⟩
          have HB2 := Keep.mk (HB.out.below h2 HB.out.lt)
          have HW2 := Keep.mk (HW.out.trans (h2.mono HW.out.size))
          have d0 := HB2.out.c 0 (opA_0 x)
          clear h2
          simp only [Act.put, List.setIfInBounds_toArray, List.set_cons_zero, List.set_cons_succ]
          refine WL.val (by kernel_rfl) (.bool true) (by go_simp) ?_
          simp only [Act.put, List.setIfInBounds_toArray, List.set_cons_zero, List.set_cons_succ]
          refine WL.nil ?_
          refine hK5 _ _ ?_
          refine wp_cond_true rfl ?_
          refine wp_seq_k fun K6 hK6 => ?_
          refine wp_region_list (WL.out ?_)
          refine WL.val (by kernel_rfl) (.int .i64 41) (by go_simp) ?_
          simp only [Act.put, List.setIfInBounds_toArray, List.set_cons_zero, List.set_cons_succ]
          refine WL.nil ?_
          refine hK6 _ _ ?_
          refine wp_ret ?_
          go_ret
          exact ⟨by rw [HR.out]; rfl, HW2.out⟩
        | true =>
          rw [if_neg (by rw [hs]; decide)] at HR
          have hS : (!sm (wipes (hasI x.kind) { x with kind := 0 }) zeroOp) = false := by rw [hs]; rfl
          by_cases hD : cellV x.kind = 4
          · rw [if_pos hD] at HR
            cases hM : mayAt l x with
            | false =>
              rw [if_neg (by rw [hM]; decide)] at HR
              refine wp_seq_k fun K1 hK1 => ?_
              refine wp_region_list (WL.out ?_)
              refine WL.box (by kernel_rfl) 59 (.tmp 0) rfl (opA x) rfl ?_
              rw [hw1.out]
              simp only [Act.put, List.setIfInBounds_toArray, List.set_cons_zero, List.set_cons_succ]
              refine WL.val (by kernel_rfl) (.int .i64 0) (by go_simp) ?_
              simp only [Act.put, List.setIfInBounds_toArray, List.set_cons_zero, List.set_cons_succ]
              refine WL.nil ?_
              refine hK1 _ _ ?_
              refine wp_seq_k fun K2 hK2 => ?_
              refine wp_block ?_
              refine wp_seq_k fun K3 hK3 => ?_
              refine wp_region_list (WL.out ?_)
              refine WL.val (by kernel_rfl) (.slice va (hasI x.kind).length vc) (by go_simp) ?_
              simp only [Act.put, List.setIfInBounds_toArray, List.set_cons_zero, List.set_cons_succ]
              refine WL.val (by kernel_rfl) (.int .i64 ((hasI x.kind).length : Int)) (by go_simp) ?_
              simp only [Act.put, List.setIfInBounds_toArray, List.set_cons_zero, List.set_cons_succ]
              refine WL.val (by kernel_rfl) (.bool false) (by go_simp) ?_
              simp only [Act.put, List.setIfInBounds_toArray, List.set_cons_zero, List.set_cons_succ]
              refine WL.val (by kernel_rfl) (.bool false) (by go_simp) ?_
              simp only [Act.put, List.setIfInBounds_toArray, List.set_cons_zero, List.set_cons_succ]
              refine WL.nil ?_
              refine hK3 _ _ ?_
              refine wp_cond_false rfl ?_
              refine wp_seq_k fun K4 hK4 => ?_
              refine wp_region_list (WL.out ?_)
              refine WL.val (by kernel_rfl) (.pointer (some ⟨w.heap.size, 1, none⟩)) (by go_simp) ?_
              simp only [Act.put, List.setIfInBounds_toArray, List.set_cons_zero, List.set_cons_succ]
              refine WL.val (by kernel_rfl) (.string x.key) (by go_simp) ?_
              simp only [Act.put, List.setIfInBounds_toArray, List.set_cons_zero, List.set_cons_succ]
              refine WL.val (by kernel_rfl) (.int .i64 (x.key.size : Int)) (by go_simp) ?_
              simp only [Act.put, List.setIfInBounds_toArray, List.set_cons_zero, List.set_cons_succ]
              refine WL.val (by kernel_rfl) (.bool false) (by go_simp) ?_
              simp only [Act.put, List.setIfInBounds_toArray, List.set_cons_zero, List.set_cons_succ]
              refine WL.val (by kernel_rfl) (.bool false) (by go_simp) ?_
              simp only [Act.put, List.setIfInBounds_toArray, List.set_cons_zero, List.set_cons_succ]
              refine WL.val (by kernel_rfl) (.pointer (some ⟨w.heap.size, 2, none⟩)) (by go_simp) ?_
              simp only [Act.put, List.setIfInBounds_toArray, List.set_cons_zero, List.set_cons_succ]
              refine WL.val (by kernel_rfl) (.string x.text) (by go_simp) ?_
              simp only [Act.put, List.setIfInBounds_toArray, List.set_cons_zero, List.set_cons_succ]
              refine WL.val (by kernel_rfl) (.int .i64 (x.text.size : Int)) (by go_simp) ?_
              simp only [Act.put, List.setIfInBounds_toArray, List.set_cons_zero, List.set_cons_succ]
              refine WL.val (by kernel_rfl) (.bool false) (by go_simp) ?_
              simp only [Act.put, List.setIfInBounds_toArray, List.set_cons_zero, List.set_cons_succ]
              refine WL.val (by kernel_rfl) (.bool false) (by go_simp) ?_
              simp only [Act.put, List.setIfInBounds_toArray, List.set_cons_zero, List.set_cons_succ]
              refine WL.val (by kernel_rfl) (.bool false) (by go_simp) ?_
              simp only [Act.put, List.setIfInBounds_toArray, List.set_cons_zero, List.set_cons_succ]
              refine WL.nil ?_
              refine hK4 _ _ ?_
              refine wp_cond_false rfl ?_
              refine wp_seq_k fun K5 hK5 => ?_
              refine wp_region_list (WL.out ?_)
              refine WL.row (by kernel_rfl) 59 (.tmp 3) rfl w.heap.size rfl 59 (opA x) _ HB.out Try.underlying59 rfl (Try.size59B x) ?_
              simp only [Act.put, List.setIfInBounds_toArray, List.set_cons_zero, List.set_cons_succ]
              refine WL.val (by kernel_rfl) (.slice va (hasI x.kind).length vc) (by go_simp) ?_
              simp only [Act.put, List.setIfInBounds_toArray, List.set_cons_zero, List.set_cons_succ]
              refine WL.callF (by kernel_rfl) 59 _ _ rfl Try.in59 #[.agg (opA x), .slice va (hasI x.kind).length vc] (by simp [Act.eval]) ?_
              refine (other_any x _ (hasI x.kind) w1 (HF.out.below HW.out) (hasI_lt _) (hasI_len _)).mono ?_
              rintro e w2 ⟨rfl, h2⟩
              rw [hS]
              refine ⟨_, rfl, ?_⟩
              have HB2 := Keep.mk (HB.out.below h2 HB.out.lt)
              have HW2 := Keep.mk (HW.out.trans (h2.mono HW.out.size))
              have d0 := HB2.out.c 0 (opA_0 x)
              clear h2
              simp only [Act.put, List.setIfInBounds_toArray, List.set_cons_zero, List.set_cons_succ]
              refine WL.val (by kernel_rfl) (.bool false) (by go_simp) ?_
              simp only [Act.put, List.setIfInBounds_toArray, List.set_cons_zero, List.set_cons_succ]
              refine WL.nil ?_
              refine hK5 _ _ ?_
              refine wp_cond_false rfl ?_
              refine wp_seq_k fun K6 hK6 => ?_
              refine wp_region_list (WL.out ?_)
              refine WL.val (by kernel_rfl) (.pointer (some ⟨w.heap.size, 0, none⟩)) (by go_simp) ?_
              simp only [Act.put, List.setIfInBounds_toArray, List.set_cons_zero, List.set_cons_succ]
              refine WL.val (by kernel_rfl) (.int .i64 x.kind) (by go_simp) ?_
              simp only [Act.put, List.setIfInBounds_toArray, List.set_cons_zero, List.set_cons_succ]
              refine WL.callF (by kernel_rfl) 60 _ _ rfl Try.in60 #[.int .i64 x.kind] (by simp [Act.eval]) ?_
              refine (cell_any x.kind w2).mono ?_
              rintro e w3 ⟨rfl, rfl⟩
              refine ⟨_, rfl, ?_⟩
              simp only [Act.put, List.setIfInBounds_toArray, List.set_cons_zero, List.set_cons_succ]
              refine WL.val (by kernel_rfl) (.bool true) (by go_simp) ?_
              simp only [Act.put, List.setIfInBounds_toArray, List.set_cons_zero, List.set_cons_succ]
              refine WL.val (by kernel_rfl) (.bool true) (by go_simp) ?_
              simp only [Act.put, List.setIfInBounds_toArray, List.set_cons_zero, List.set_cons_succ]
              refine WL.row (by kernel_rfl) 59 (.tmp 3) rfl w.heap.size rfl 59 (opA x) _ HB2.out Try.underlying59 rfl (Try.size59B x) ?_
              simp only [Act.put, List.setIfInBounds_toArray, List.set_cons_zero, List.set_cons_succ]
              refine WL.val (by kernel_rfl) (.slice la l.length lc) (by go_simp) ?_
              simp only [Act.put, List.setIfInBounds_toArray, List.set_cons_zero, List.set_cons_succ]
              refine WL.callF (by kernel_rfl) 61 _ _ rfl Try.in61 #[.agg (opA x), .slice la l.length lc] (by simp [Act.eval]) ?_
              refine (may_any x _ l _ Hx.out (HL.out.below HW2.out) Hl.out).mono ?_
              rintro e w4 ⟨rfl, h4⟩
              rw [hM]
              refine ⟨_, rfl, ?_⟩
              simp only [Act.put, List.setIfInBounds_toArray, List.set_cons_zero, List.set_cons_succ]
              refine WL.val (by kernel_rfl) (.bool true) (by go_simp) ?_
              simp only [Act.put, List.setIfInBounds_toArray, List.set_cons_zero, List.set_cons_succ]
              refine WL.val (by kernel_rfl) (.bool true) (by go_simp) ?_
              simp only [Act.put, List.setIfInBounds_toArray, List.set_cons_zero, List.set_cons_succ]
              refine WL.val (by kernel_rfl) (.bool true) (by go_simp) ?_
              simp only [Act.put, List.setIfInBounds_toArray, List.set_cons_zero, List.set_cons_succ]
              refine WL.nil ?_
              refine hK6 _ _ ?_
              refine wp_cond_true rfl ?_
              refine wp_seq_k fun K7 hK7 => ?_
              refine wp_region_list (WL.out ?_)
              refine WL.val (by kernel_rfl) (.int .i64 42) (by go_simp) ?_
              simp only [Act.put, List.setIfInBounds_toArray, List.set_cons_zero, List.set_cons_succ]
              refine WL.nil ?_
              refine hK7 _ _ ?_
              refine wp_ret ?_
              go_ret
              exact ⟨by rw [HR.out]; rfl, HW2.out.trans (h4.mono HW2.out.size)⟩
            | true =>
              rw [if_pos hM] at HR
              refine wp_seq_k fun K1 hK1 => ?_
              refine wp_region_list (WL.out ?_)
              refine WL.box (by kernel_rfl) 59 (.tmp 0) rfl (opA x) rfl ?_
              rw [hw1.out]
              simp only [Act.put, List.setIfInBounds_toArray, List.set_cons_zero, List.set_cons_succ]
              refine WL.val (by kernel_rfl) (.int .i64 0) (by go_simp) ?_
              simp only [Act.put, List.setIfInBounds_toArray, List.set_cons_zero, List.set_cons_succ]
              refine WL.nil ?_
              refine hK1 _ _ ?_
              refine wp_seq_k fun K2 hK2 => ?_
              refine wp_block ?_
              refine wp_seq_k fun K3 hK3 => ?_
              refine wp_region_list (WL.out ?_)
              refine WL.val (by kernel_rfl) (.slice va (hasI x.kind).length vc) (by go_simp) ?_
              simp only [Act.put, List.setIfInBounds_toArray, List.set_cons_zero, List.set_cons_succ]
              refine WL.val (by kernel_rfl) (.int .i64 ((hasI x.kind).length : Int)) (by go_simp) ?_
              simp only [Act.put, List.setIfInBounds_toArray, List.set_cons_zero, List.set_cons_succ]
              refine WL.val (by kernel_rfl) (.bool false) (by go_simp) ?_
              simp only [Act.put, List.setIfInBounds_toArray, List.set_cons_zero, List.set_cons_succ]
              refine WL.val (by kernel_rfl) (.bool false) (by go_simp) ?_
              simp only [Act.put, List.setIfInBounds_toArray, List.set_cons_zero, List.set_cons_succ]
              refine WL.nil ?_
              refine hK3 _ _ ?_
              refine wp_cond_false rfl ?_
              refine wp_seq_k fun K4 hK4 => ?_
              refine wp_region_list (WL.out ?_)
              refine WL.val (by kernel_rfl) (.pointer (some ⟨w.heap.size, 1, none⟩)) (by go_simp) ?_
              simp only [Act.put, List.setIfInBounds_toArray, List.set_cons_zero, List.set_cons_succ]
              refine WL.val (by kernel_rfl) (.string x.key) (by go_simp) ?_
              simp only [Act.put, List.setIfInBounds_toArray, List.set_cons_zero, List.set_cons_succ]
              refine WL.val (by kernel_rfl) (.int .i64 (x.key.size : Int)) (by go_simp) ?_
              simp only [Act.put, List.setIfInBounds_toArray, List.set_cons_zero, List.set_cons_succ]
              refine WL.val (by kernel_rfl) (.bool false) (by go_simp) ?_
              simp only [Act.put, List.setIfInBounds_toArray, List.set_cons_zero, List.set_cons_succ]
              refine WL.val (by kernel_rfl) (.bool false) (by go_simp) ?_
              simp only [Act.put, List.setIfInBounds_toArray, List.set_cons_zero, List.set_cons_succ]
              refine WL.val (by kernel_rfl) (.pointer (some ⟨w.heap.size, 2, none⟩)) (by go_simp) ?_
              simp only [Act.put, List.setIfInBounds_toArray, List.set_cons_zero, List.set_cons_succ]
              refine WL.val (by kernel_rfl) (.string x.text) (by go_simp) ?_
              simp only [Act.put, List.setIfInBounds_toArray, List.set_cons_zero, List.set_cons_succ]
              refine WL.val (by kernel_rfl) (.int .i64 (x.text.size : Int)) (by go_simp) ?_
              simp only [Act.put, List.setIfInBounds_toArray, List.set_cons_zero, List.set_cons_succ]
              refine WL.val (by kernel_rfl) (.bool false) (by go_simp) ?_
              simp only [Act.put, List.setIfInBounds_toArray, List.set_cons_zero, List.set_cons_succ]
              refine WL.val (by kernel_rfl) (.bool false) (by go_simp) ?_
              simp only [Act.put, List.setIfInBounds_toArray, List.set_cons_zero, List.set_cons_succ]
              refine WL.val (by kernel_rfl) (.bool false) (by go_simp) ?_
              simp only [Act.put, List.setIfInBounds_toArray, List.set_cons_zero, List.set_cons_succ]
              refine WL.nil ?_
              refine hK4 _ _ ?_
              refine wp_cond_false rfl ?_
              refine wp_seq_k fun K5 hK5 => ?_
              refine wp_region_list (WL.out ?_)
              refine WL.row (by kernel_rfl) 59 (.tmp 3) rfl w.heap.size rfl 59 (opA x) _ HB.out Try.underlying59 rfl (Try.size59B x) ?_
              simp only [Act.put, List.setIfInBounds_toArray, List.set_cons_zero, List.set_cons_succ]
              refine WL.val (by kernel_rfl) (.slice va (hasI x.kind).length vc) (by go_simp) ?_
              simp only [Act.put, List.setIfInBounds_toArray, List.set_cons_zero, List.set_cons_succ]
              refine WL.callF (by kernel_rfl) 59 _ _ rfl Try.in59 #[.agg (opA x), .slice va (hasI x.kind).length vc] (by simp [Act.eval]) ?_
              refine (other_any x _ (hasI x.kind) w1 (HF.out.below HW.out) (hasI_lt _) (hasI_len _)).mono ?_
              rintro e w2 ⟨rfl, h2⟩
              rw [hS]
              refine ⟨_, rfl, ?_⟩
              have HB2 := Keep.mk (HB.out.below h2 HB.out.lt)
              have HW2 := Keep.mk (HW.out.trans (h2.mono HW.out.size))
              have d0 := HB2.out.c 0 (opA_0 x)
              clear h2
              simp only [Act.put, List.setIfInBounds_toArray, List.set_cons_zero, List.set_cons_succ]
              refine WL.val (by kernel_rfl) (.bool false) (by go_simp) ?_
              simp only [Act.put, List.setIfInBounds_toArray, List.set_cons_zero, List.set_cons_succ]
              refine WL.nil ?_
              refine hK5 _ _ ?_
              refine wp_cond_false rfl ?_
              refine wp_seq_k fun K6 hK6 => ?_
              refine wp_region_list (WL.out ?_)
              refine WL.val (by kernel_rfl) (.pointer (some ⟨w.heap.size, 0, none⟩)) (by go_simp) ?_
              simp only [Act.put, List.setIfInBounds_toArray, List.set_cons_zero, List.set_cons_succ]
              refine WL.val (by kernel_rfl) (.int .i64 x.kind) (by go_simp) ?_
              simp only [Act.put, List.setIfInBounds_toArray, List.set_cons_zero, List.set_cons_succ]
              refine WL.callF (by kernel_rfl) 60 _ _ rfl Try.in60 #[.int .i64 x.kind] (by simp [Act.eval]) ?_
              refine (cell_any x.kind w2).mono ?_
              rintro e w3 ⟨rfl, rfl⟩
              refine ⟨_, rfl, ?_⟩
              simp only [Act.put, List.setIfInBounds_toArray, List.set_cons_zero, List.set_cons_succ]
              refine WL.val (by kernel_rfl) (.bool true) (by go_simp) ?_
              simp only [Act.put, List.setIfInBounds_toArray, List.set_cons_zero, List.set_cons_succ]
              refine WL.val (by kernel_rfl) (.bool true) (by go_simp) ?_
              simp only [Act.put, List.setIfInBounds_toArray, List.set_cons_zero, List.set_cons_succ]
              refine WL.row (by kernel_rfl) 59 (.tmp 3) rfl w.heap.size rfl 59 (opA x) _ HB2.out Try.underlying59 rfl (Try.size59B x) ?_
              simp only [Act.put, List.setIfInBounds_toArray, List.set_cons_zero, List.set_cons_succ]
              refine WL.val (by kernel_rfl) (.slice la l.length lc) (by go_simp) ?_
              simp only [Act.put, List.setIfInBounds_toArray, List.set_cons_zero, List.set_cons_succ]
              refine WL.callF (by kernel_rfl) 61 _ _ rfl Try.in61 #[.agg (opA x), .slice la l.length lc] (by simp [Act.eval]) ?_
              refine (may_any x _ l _ Hx.out (HL.out.below HW2.out) Hl.out).mono ?_
              rintro e w4 ⟨rfl, h4⟩
              rw [hM]
              refine ⟨_, rfl, ?_⟩
              simp only [Act.put, List.setIfInBounds_toArray, List.set_cons_zero, List.set_cons_succ]
              refine WL.val (by kernel_rfl) (.bool false) (by go_simp) ?_
              simp only [Act.put, List.setIfInBounds_toArray, List.set_cons_zero, List.set_cons_succ]
              refine WL.val (by kernel_rfl) (.bool false) (by go_simp) ?_
              simp only [Act.put, List.setIfInBounds_toArray, List.set_cons_zero, List.set_cons_succ]
              refine WL.val (by kernel_rfl) (.bool false) (by go_simp) ?_
              simp only [Act.put, List.setIfInBounds_toArray, List.set_cons_zero, List.set_cons_succ]
              refine WL.nil ?_
              refine hK6 _ _ ?_
              refine wp_cond_false rfl ?_
              refine wp_skip ?_
              refine hK2 _ _ ?_
              refine wp_seq_k fun K7 hK7 => ?_
              refine wp_region_list (WL.out ?_)
              refine WL.val (by kernel_rfl) (.int .i64 0) (by go_simp) ?_
              simp only [Act.put, List.setIfInBounds_toArray, List.set_cons_zero, List.set_cons_succ]
              refine WL.nil ?_
              refine hK7 _ _ ?_
              refine wp_ret ?_
              go_ret
              exact ⟨by rw [HR.out]; rfl, HW2.out.trans (h4.mono HW2.out.size)⟩
          · rw [if_neg hD] at HR
            refine wp_seq_k fun K1 hK1 => ?_
            refine wp_region_list (WL.out ?_)
            refine WL.box (by kernel_rfl) 59 (.tmp 0) rfl (opA x) rfl ?_
            rw [hw1.out]
            simp only [Act.put, List.setIfInBounds_toArray, List.set_cons_zero, List.set_cons_succ]
            refine WL.val (by kernel_rfl) (.int .i64 0) (by go_simp) ?_
            simp only [Act.put, List.setIfInBounds_toArray, List.set_cons_zero, List.set_cons_succ]
            refine WL.nil ?_
            refine hK1 _ _ ?_
            refine wp_seq_k fun K2 hK2 => ?_
            refine wp_block ?_
            refine wp_seq_k fun K3 hK3 => ?_
            refine wp_region_list (WL.out ?_)
            refine WL.val (by kernel_rfl) (.slice va (hasI x.kind).length vc) (by go_simp) ?_
            simp only [Act.put, List.setIfInBounds_toArray, List.set_cons_zero, List.set_cons_succ]
            refine WL.val (by kernel_rfl) (.int .i64 ((hasI x.kind).length : Int)) (by go_simp) ?_
            simp only [Act.put, List.setIfInBounds_toArray, List.set_cons_zero, List.set_cons_succ]
            refine WL.val (by kernel_rfl) (.bool false) (by go_simp) ?_
            simp only [Act.put, List.setIfInBounds_toArray, List.set_cons_zero, List.set_cons_succ]
            refine WL.val (by kernel_rfl) (.bool false) (by go_simp) ?_
            simp only [Act.put, List.setIfInBounds_toArray, List.set_cons_zero, List.set_cons_succ]
            refine WL.nil ?_
            refine hK3 _ _ ?_
            refine wp_cond_false rfl ?_
            refine wp_seq_k fun K4 hK4 => ?_
            refine wp_region_list (WL.out ?_)
            refine WL.val (by kernel_rfl) (.pointer (some ⟨w.heap.size, 1, none⟩)) (by go_simp) ?_
            simp only [Act.put, List.setIfInBounds_toArray, List.set_cons_zero, List.set_cons_succ]
            refine WL.val (by kernel_rfl) (.string x.key) (by go_simp) ?_
            simp only [Act.put, List.setIfInBounds_toArray, List.set_cons_zero, List.set_cons_succ]
            refine WL.val (by kernel_rfl) (.int .i64 (x.key.size : Int)) (by go_simp) ?_
            simp only [Act.put, List.setIfInBounds_toArray, List.set_cons_zero, List.set_cons_succ]
            refine WL.val (by kernel_rfl) (.bool false) (by go_simp) ?_
            simp only [Act.put, List.setIfInBounds_toArray, List.set_cons_zero, List.set_cons_succ]
            refine WL.val (by kernel_rfl) (.bool false) (by go_simp) ?_
            simp only [Act.put, List.setIfInBounds_toArray, List.set_cons_zero, List.set_cons_succ]
            refine WL.val (by kernel_rfl) (.pointer (some ⟨w.heap.size, 2, none⟩)) (by go_simp) ?_
            simp only [Act.put, List.setIfInBounds_toArray, List.set_cons_zero, List.set_cons_succ]
            refine WL.val (by kernel_rfl) (.string x.text) (by go_simp) ?_
            simp only [Act.put, List.setIfInBounds_toArray, List.set_cons_zero, List.set_cons_succ]
            refine WL.val (by kernel_rfl) (.int .i64 (x.text.size : Int)) (by go_simp) ?_
            simp only [Act.put, List.setIfInBounds_toArray, List.set_cons_zero, List.set_cons_succ]
            refine WL.val (by kernel_rfl) (.bool false) (by go_simp) ?_
            simp only [Act.put, List.setIfInBounds_toArray, List.set_cons_zero, List.set_cons_succ]
            refine WL.val (by kernel_rfl) (.bool false) (by go_simp) ?_
            simp only [Act.put, List.setIfInBounds_toArray, List.set_cons_zero, List.set_cons_succ]
            refine WL.val (by kernel_rfl) (.bool false) (by go_simp) ?_
            simp only [Act.put, List.setIfInBounds_toArray, List.set_cons_zero, List.set_cons_succ]
            refine WL.nil ?_
            refine hK4 _ _ ?_
            refine wp_cond_false rfl ?_
            refine wp_seq_k fun K5 hK5 => ?_
            refine wp_region_list (WL.out ?_)
            refine WL.row (by kernel_rfl) 59 (.tmp 3) rfl w.heap.size rfl 59 (opA x) _ HB.out Try.underlying59 rfl (Try.size59B x) ?_
            simp only [Act.put, List.setIfInBounds_toArray, List.set_cons_zero, List.set_cons_succ]
            refine WL.val (by kernel_rfl) (.slice va (hasI x.kind).length vc) (by go_simp) ?_
            simp only [Act.put, List.setIfInBounds_toArray, List.set_cons_zero, List.set_cons_succ]
            refine WL.callF (by kernel_rfl) 59 _ _ rfl Try.in59 #[.agg (opA x), .slice va (hasI x.kind).length vc] (by simp [Act.eval]) ?_
            refine (other_any x _ (hasI x.kind) w1 (HF.out.below HW.out) (hasI_lt _) (hasI_len _)).mono ?_
            rintro e w2 ⟨rfl, h2⟩
            rw [hS]
            refine ⟨_, rfl, ?_⟩
            have HB2 := Keep.mk (HB.out.below h2 HB.out.lt)
            have HW2 := Keep.mk (HW.out.trans (h2.mono HW.out.size))
            have d0 := HB2.out.c 0 (opA_0 x)
            clear h2
            simp only [Act.put, List.setIfInBounds_toArray, List.set_cons_zero, List.set_cons_succ]
            refine WL.val (by kernel_rfl) (.bool false) (by go_simp) ?_
            simp only [Act.put, List.setIfInBounds_toArray, List.set_cons_zero, List.set_cons_succ]
            refine WL.nil ?_
            refine hK5 _ _ ?_
            refine wp_cond_false rfl ?_
            refine wp_seq_k fun K6 hK6 => ?_
            refine wp_region_list (WL.out ?_)
            refine WL.val (by kernel_rfl) (.pointer (some ⟨w.heap.size, 0, none⟩)) (by go_simp) ?_
            simp only [Act.put, List.setIfInBounds_toArray, List.set_cons_zero, List.set_cons_succ]
            refine WL.val (by kernel_rfl) (.int .i64 x.kind) (by go_simp) ?_
            simp only [Act.put, List.setIfInBounds_toArray, List.set_cons_zero, List.set_cons_succ]
            refine WL.callF (by kernel_rfl) 60 _ _ rfl Try.in60 #[.int .i64 x.kind] (by simp [Act.eval]) ?_
            refine (cell_any x.kind w2).mono ?_
            rintro e w3 ⟨rfl, rfl⟩
            refine ⟨_, rfl, ?_⟩
            simp only [Act.put, List.setIfInBounds_toArray, List.set_cons_zero, List.set_cons_succ]
            refine WL.val (by kernel_rfl) (.bool false) (by go_simp) ?_
            simp only [Act.put, List.setIfInBounds_toArray, List.set_cons_zero, List.set_cons_succ]
            refine WL.val (by kernel_rfl) (.bool false) (by go_simp) ?_
            simp only [Act.put, List.setIfInBounds_toArray, List.set_cons_zero, List.set_cons_succ]
            refine WL.skip (by kernel_rfl) ?_
            simp only [Act.put, List.setIfInBounds_toArray, List.set_cons_zero, List.set_cons_succ]
            refine WL.skip (by kernel_rfl) ?_
            simp only [Act.put, List.setIfInBounds_toArray, List.set_cons_zero, List.set_cons_succ]
            refine WL.skip (by kernel_rfl) ?_
            simp only [Act.put, List.setIfInBounds_toArray, List.set_cons_zero, List.set_cons_succ]
            refine WL.skip (by kernel_rfl) ?_
            simp only [Act.put, List.setIfInBounds_toArray, List.set_cons_zero, List.set_cons_succ]
            refine WL.val (by kernel_rfl) (.bool false) (by go_simp) ?_
            simp only [Act.put, List.setIfInBounds_toArray, List.set_cons_zero, List.set_cons_succ]
            refine WL.val (by kernel_rfl) (.bool false) (by go_simp) ?_
            simp only [Act.put, List.setIfInBounds_toArray, List.set_cons_zero, List.set_cons_succ]
            refine WL.nil ?_
            refine hK6 _ _ ?_
            refine wp_cond_false rfl ?_
            refine wp_skip ?_
            refine hK2 _ _ ?_
            refine wp_seq_k fun K7 hK7 => ?_
            refine wp_region_list (WL.out ?_)
            refine WL.val (by kernel_rfl) (.int .i64 0) (by go_simp) ?_
            simp only [Act.put, List.setIfInBounds_toArray, List.set_cons_zero, List.set_cons_succ]
            refine WL.nil ?_
            refine hK7 _ _ ?_
            refine wp_ret ?_
            go_ret
            exact ⟨by rw [HR.out]; rfl, HW2.out⟩

def chkF : List OpV → List OpV → Int × Nat
  | _, [] => (0, 0)
  | l, x :: r => if wrongV l x = 0 then chkF (l ++ [x]) r else (wrongV l x, l.length)
def chk (l : List OpV) : Int × Nat := if 1024 < l.length then (3, 0) else chkF [] l
theorem wp_callF {P : Program} {Q : Exit → Act → World → Prop} {o : Oper} {a : Act} {w : World} {K : Act → World → Prop} (f : FuncId) (args : Array Operand) (ts : Array TypeId) (ho : o.op = .call { callee := .value (.func f), args := args, argTypes := ts })
    (hf : ∀ (w : World) (vs : Array Value), (callFunc f vs).run P w = .ok (.enter f vs) w)
    (vs : Array Value) (hvs : args.map a.eval = vs)
    (R : Value → World → Prop) (hc : Calls P f vs w fun e w' => ∃ v, e = .returned v ∧ R v w')
    (h : ∀ v w', R v w' → K (a.put o.dst v) w') : o.wp P a w K Q := by
  unfold Oper.wp
  rw [run_callF a o f args ts ho hf w, Oper.upon_enter, hvs]
  refine hc.mono ?_
  rintro e w' ⟨v, rfl, hr⟩
  exact h v w' hr
theorem TabAt.look2 {w : World} {m : Nat} (h : TabAt w m) (k : Int) : ∃ v, FieldsAt w v (hasI k) ∧ ∀ wx, Below w.heap.size w wx →
    (Instr.lookup 75 (.map (some m)) (.int .i64 k) false).run Try.prog wx = .ok v wx ∧ (Instr.lookup 75 (.map (some m)) (.int .i64 k) true).run Try.prog wx = .ok (.tuple #[v, .bool (!(hasI k).isEmpty)]) wx := by
  obtain ⟨V, h1, h2⟩ := h.ex
  have h3 := fun wx (hb : Below w.heap.size w wx) => run_look wx m _ k (h1.grown (Grown.below (S := fun _ => False) hb) (fun h => h))
  simp only [find_tab] at h3
  by_cases hk : k ∈ ([1, 2, 3, 4, 5, 6, 7, 8, 9] : List Int)
  · refine ⟨V k, h2 k hk, fun wx hb => ⟨by rw [h3 wx hb, if_pos hk]; rfl, ?_⟩⟩
    have : (hasI k).isEmpty = false := by simpa using hasI_some k hk
    rw [h3 wx hb, if_pos hk, this]; rfl
  · refine ⟨.slice none 0 0, .inl ⟨rfl, hasI_none k hk⟩, fun wx hb => ⟨by rw [h3 wx hb, if_neg hk]; rfl, ?_⟩⟩
    rw [h3 wx hb, if_neg hk, hasI_none k hk]; rfl
theorem Try.elem36 : Try.prog.elem 36 = 59 := by kernel_rfl
theorem Try.sizeOf59 (w : World) : (sizeOf 59).run Try.prog w = .ok 37 w := by kernel_rfl
theorem sl_run23 (base : Option Addr) (n cap a : Nat) (ha : a ≤ cap) (wx : World) : (Instr.sliceAt 36 (.slice base n cap) none (some (.int .i64 (a : Int))) none).run Try.prog wx = .ok (.slice base a cap) wx := by
  have hu : Try.prog.underlying 36 = some (.slice (Try.prog.elem 36)) := by rw [Try.elem36]; exact Try.underlying36
  have h1 := run_slice_h (P := Try.prog) (w := wx) 36 base n cap hu .i64 (a : Int) (by omega) (by omega)
  have h2 := run_sliceAt_slice (P := Try.prog) (w := wx) 36 (.slice base n cap) none (some (.int .i64 (a : Int))) none hu
  rw [Try.elem36] at h1
  have h3 : sliced base 0 (a : Int).toNat cap 37 = .slice base a cap := by
    have h4 : (if cap = 0 then base else base.map (·.add (0 * 37))) = base := by
      split
      · rfl
      · cases base <;> rfl
    unfold sliced
    rw [h4, Int.toNat_natCast, Nat.sub_zero, Nat.sub_zero]
  rw [h2, h1]
  refine (congrArg (fun z => Result.andThen z fun s w => Result.ok (sliced base 0 (a : Int).toNat cap s) w) (Try.sizeOf59 wx)).trans ?_
  show Result.ok (sliced base 0 (a : Int).toNat cap 37) wx = _
  rw [h3]
theorem OpsAt.take {w : World} {a : Option Addr} {n c : Nat} {l : List OpV} (h : OpsAt w (.slice a n c) l) {t : Nat} (ht : t ≤ l.length) : t ≤ c ∧ OpsAt w (.slice a t c) (l.take t) := by
  rcases h with ⟨_, _, e, rfl⟩ | ⟨b, off, cap, e, h2, h3⟩
  · obtain rfl : t = 0 := by simpa using ht
    exact ⟨Nat.zero_le _, .inl ⟨_, _, rfl, rfl⟩⟩
  · injection e with e1 e2 e3
    subst e1 e3
    refine ⟨by omega, .inr ⟨b, off, c, ?_, ?_, fun i x hx => h3 i x ?_⟩⟩
    · rw [List.length_take, Nat.min_eq_left ht]
    · rw [List.length_take]; omega
    · rw [List.getElem?_take] at hx; split at hx
      · exact hx
      · cases hx
theorem chkF_step (l : List OpV) (t : Nat) (ht : t < l.length) : chkF (l.take t) (l.drop t) = if wrongV (l.take t) (l.getD t zeroOp) = 0 then chkF (l.take (t + 1)) (l.drop (t + 1)) else (wrongV (l.take t) (l.getD t zeroOp), t) := by
  rw [List.drop_eq_getElem_cons ht, chkF, List.take_succ_eq_append_getElem ht, List.length_take, Nat.min_eq_left (by omega)]
  rw [show l.getD t zeroOp = l[t] by simp [List.getD_eq_getElem?_getD, ht]]
set_option maxRecDepth 8000 in
set_option maxHeartbeats 1000000 in
theorem check_any (v : Value) (l : List OpV) (w : World) (hl : OpsAt w v l) (hok : ∀ x ∈ l, OpOk x) (hb : l.length ≤ 4398046511104) :
    Calls Try.prog 26 #[v] w fun e w' => e = .returned (.tuple #[.int .i64 (chk l).1, .int .i64 ((chk l).2 : Int)]) ∧ Below w.heap.size w w' := by
  obtain ⟨va, vc, rfl⟩ := hl.form
  have HL := Keep.mk hl
  have Hok := Keep.mk hok
  have Hlb := Keep.mk hb
  have hb' : (l.length : Int) ≤ 9223372036854775807 := by omega
  obtain ⟨R, hR⟩ : ∃ R, R = chk l := ⟨_, rfl⟩
  rw [← hR]
  unfold chk at hR
  have HR := Keep.mk hR
  clear hl hok hb hR
  go_enter Try.func26, Try.ntmps26
  by_cases hM : 1024 < l.length
  · have hM' : (1024 : Int) < (l.length : Int) := by omega
    rw [if_pos hM] at HR
    refine wp_seq_k fun K1 hK1 => ?_
    refine wp_region_list (WL.out ?_)
    refine WL.val (by kernel_rfl) (.int .i64 0) (by go_simp) ?_
    simp only [Act.put, List.setIfInBounds_toArray, List.set_cons_zero, List.set_cons_succ]
    refine WL.val (by kernel_rfl) (.int .i64 0) (by go_simp) ?_
    simp only [Act.put, List.setIfInBounds_toArray, List.set_cons_zero, List.set_cons_succ]
    refine WL.nil ?_
    refine hK1 _ _ ?_
    refine wp_seq_k fun K2 hK2 => ?_
    refine wp_seq_k fun K3 hK3 => ?_
    refine wp_region_list (WL.out ?_)
    refine WL.val (by kernel_rfl) (.slice va l.length vc) (by go_simp) ?_
    simp only [Act.put, List.setIfInBounds_toArray, List.set_cons_zero, List.set_cons_succ]
    refine WL.val (by kernel_rfl) (.int .i64 (l.length : Int)) (by go_simp) ?_
    simp only [Act.put, List.setIfInBounds_toArray, List.set_cons_zero, List.set_cons_succ]
    refine WL.val (by kernel_rfl) (.bool true) (by go_simp) ?_
    simp only [Act.put, List.setIfInBounds_toArray, List.set_cons_zero, List.set_cons_succ]
    refine WL.nil ?_
    refine hK3 _ _ ?_
    refine wp_cond_true rfl ?_
    refine wp_seq_k fun K4 hK4 => ?_
    refine wp_region_list (WL.out ?_)
    refine WL.val (by kernel_rfl) (.int .i64 3) (by go_simp) ?_
    simp only [Act.put, List.setIfInBounds_toArray, List.set_cons_zero, List.set_cons_succ]
    refine WL.val (by kernel_rfl) (.int .i64 0) (by go_simp) ?_
    simp only [Act.put, List.setIfInBounds_toArray, List.set_cons_zero, List.set_cons_succ]
    refine WL.nil ?_
    refine hK4 _ _ ?_
    refine wp_ret ?_
    go_ret2
    exact ⟨by rw [HR.out]; rfl, Below.refl _ _⟩
  · have hM' : ¬ (1024 : Int) < (l.length : Int) := by omega
    rw [if_neg hM] at HR
    refine wp_seq_k fun K1 hK1 => ?_
    refine wp_region_list (WL.out ?_)
    refine WL.val (by kernel_rfl) (.int .i64 0) (by go_simp) ?_
    simp only [Act.put, List.setIfInBounds_toArray, List.set_cons_zero, List.set_cons_succ]
    refine WL.val (by kernel_rfl) (.int .i64 0) (by go_simp) ?_
    simp only [Act.put, List.setIfInBounds_toArray, List.set_cons_zero, List.set_cons_succ]
    refine WL.nil ?_
    refine hK1 _ _ ?_
    refine wp_seq_k fun K2 hK2 => ?_
    refine wp_seq_k fun K3 hK3 => ?_
    refine wp_region_list (WL.out ?_)
    refine WL.val (by kernel_rfl) (.slice va l.length vc) (by go_simp) ?_
    simp only [Act.put, List.setIfInBounds_toArray, List.set_cons_zero, List.set_cons_succ]
    refine WL.val (by kernel_rfl) (.int .i64 (l.length : Int)) (by go_simp) ?_
    simp only [Act.put, List.setIfInBounds_toArray, List.set_cons_zero, List.set_cons_succ]
    refine WL.val (by kernel_rfl) (.bool false) (by go_simp) ?_
    simp only [Act.put, List.setIfInBounds_toArray, List.set_cons_zero, List.set_cons_succ]
    refine WL.nil ?_
    refine hK3 _ _ ?_
    refine wp_cond_false rfl ?_
    refine wp_skip ?_
    refine hK2 _ _ ?_
    refine wp_seq_k fun K4 hK4 => ?_
    refine wp_region_list (WL.out ?_)
    refine WL.callF (by kernel_rfl) 33 _ _ rfl Try.in33 #[] (by simp) ?_
    refine (tab_any w).mono ?_
    rintro e w1 ⟨m, rfl, hT1, hm1, hB1⟩
    refine ⟨_, rfl, ?_⟩
    have hL1 := HL.out.below hB1
    simp only [Act.put, List.setIfInBounds_toArray, List.set_cons_zero, List.set_cons_succ]
    refine WL.val (by kernel_rfl) (.map (some m)) (by go_simp) ?_
    simp only [Act.put, List.setIfInBounds_toArray, List.set_cons_zero, List.set_cons_succ]
    refine WL.nil ?_
    refine hK4 _ _ ?_
    refine wp_seq_k fun K5 hK5 => ?_
    refine wp_seq_k fun K6 hK6 => ?_
    refine wp_region_list (WL.out ?_)
    refine WL.val (by kernel_rfl) (.slice va l.length vc) (by go_simp) ?_
    simp only [Act.put, List.setIfInBounds_toArray, List.set_cons_zero, List.set_cons_succ]
    refine WL.val (by kernel_rfl) (.int .i64 (l.length : Int)) (by go_simp) ?_
    simp only [Act.put, List.setIfInBounds_toArray, List.set_cons_zero, List.set_cons_succ]
    refine WL.val (by kernel_rfl) (.int .i64 0) (by go_simp) ?_
    simp only [Act.put, List.setIfInBounds_toArray, List.set_cons_zero, List.set_cons_succ]
    refine WL.nil ?_
    refine hK6 _ _ ?_
    refine wp_block ?_
    refine wp_loop (fun a wr => ∃ (t : Nat) (u2 u3 u5 u6 u7 u15 u16 u17 u18 u19 u20 u21 u22 u23 u24 u25 u26 u27 u28 u29 u30 u31 u32 : Value), a = { tmps := #[.slice va l.length vc, undef, u2, u3, .map (some m), u5, u6, u7, .slice va l.length vc, .int .i64 (l.length : Int), .bool false, .map (some m), .slice va l.length vc, .int .i64 (l.length : Int), .int .i64 (t : Int), u15, u16, u17, u18, u19, u20, u21, u22, u23, u24, u25, u26, u27, u28, u29, u30, u31, u32], defers := [] } ∧ t ≤ l.length ∧ chkF [] l = chkF (l.take t) (l.drop t) ∧ TabAt wr m ∧ OpsAt wr (.slice va l.length vc) l ∧ Below w.heap.size w wr) (fun a _ => l.length - (intOf (a.tmps.getD 14 undef)).toNat) ⟨0, .int .i64 0, .int .i64 0, undef, undef, undef, undef, undef, undef, undef, undef, undef, undef, undef, undef, undef, undef, undef, undef, undef, undef, undef, undef, undef, rfl, by omega, rfl, hT1, hL1, hB1⟩ ?_
    rintro a wr ⟨t, u2, u3, u5, u6, u7, u15, u16, u17, u18, u19, u20, u21, u22, u23, u24, u25, u26, u27, u28, u29, u30, u31, u32, rfl, ht, hC, hT, hL, hB⟩
    by_cases htl : t < l.length
    · have htl' : (t : Int) < (l.length : Int) := by omega
      obtain ⟨gL, ofL, hva, hr⟩ := hL.at htl
      have hst := chkF_step l t htl
      have htk := hL.take (Nat.le_of_lt htl)
      have hmem : l.getD t zeroOp ∈ l := by simp [List.getD_eq_getElem?_getD, htl]
      have Hx := Keep.mk (Hok.out _ hmem)
      generalize l.getD t zeroOp = x at *
      have hwr1 : IntKind.i64.wrap ((t : Int) + 1) = (t : Int) + 1 := by rw [IntKind.wrap_i64]; have := Hlb.out; omega
      have HLl := Keep.mk hL
      have HBl := Keep.mk hB
      have HTl := Keep.mk hT
      have Hst := Keep.mk hst
      have Htk := Keep.mk htk
      clear hL hB hT hst htk hmem
      by_cases hW : wrongV (l.take t) x = 0
      · refine wp_seq_k fun K7 hK7 => ?_
        refine wp_region_list (WL.out ?_)
        refine WL.val (by kernel_rfl) (.bool true) (by go_simp) ?_
        simp only [Act.put, List.setIfInBounds_toArray, List.set_cons_zero, List.set_cons_succ]
        refine WL.nil ?_
        refine hK7 _ _ ?_
        refine wp_seq_k fun K8 hK8 => ?_
        refine wp_cond_true rfl ?_
        refine wp_skip ?_
        refine hK8 _ _ ?_
        refine wp_seq_k fun K9 hK9 => ?_
        refine wp_block ?_
        refine wp_seq_k fun K10 hK10 => ?_
        refine wp_region_list (WL.out ?_)
        refine WL.val (by kernel_rfl) (.int .i64 (t : Int)) (by go_simp) ?_
        simp only [Act.put, List.setIfInBounds_toArray, List.set_cons_zero, List.set_cons_succ]
        refine WL.val (by kernel_rfl) (.pointer (some ⟨gL, ofL + t * 37, none⟩)) (by go_simp) ?_
        simp only [Act.put, List.setIfInBounds_toArray, List.set_cons_zero, List.set_cons_succ]
        refine WL.mid (by kernel_rfl) 59 (.tmp 17) rfl gL (ofL + t * 37) rfl (opL x) _ hr Try.underlying59 rfl (Try.size59L x) ?_
        rw [rng_load]
        simp only [Act.put, List.setIfInBounds_toArray, List.set_cons_zero, List.set_cons_succ]
        refine WL.new (by kernel_rfl) 59 rfl _ Try.new59 ?_
        simp only [Act.put, List.setIfInBounds_toArray, List.set_cons_zero, List.set_cons_succ]
        refine WL.val (by kernel_rfl) (.int .i64 (t : Int)) (by go_simp) ?_
        simp only [Act.put, List.setIfInBounds_toArray, List.set_cons_zero, List.set_cons_succ]
        refine WL.storeR (by kernel_rfl) 59 (.tmp 6) (.tmp 18) rfl wr.heap.size (opA x) rfl rfl 59 (opA zeroOp) (Blk.new wr 59 _) (Try.size59B x) (opA_sizes _ _) (opA_one x) ?_
        have HX := Keep.mk ((Blk.new wr 59 (opA zeroOp)).setRow (opA x))
        have HG : Keep (Below wr.heap.size wr ((wr.alloc (.cells (opA zeroOp) 59)).setRow wr.heap.size (opA x))) := ⟨below_setRow (below_new wr _) (Nat.le_refl _) _⟩
        generalize (wr.alloc (.cells (opA zeroOp) 59)).setRow wr.heap.size (opA x) = wq at *
        obtain ⟨vF, hvF, hlk⟩ := (HTl.out.below HG.out).look2 x.kind
        have HvF := Keep.mk hvF
        have HS0 : Keep (∀ wx, Below wq.heap.size wq wx → wx.rangeAt wr.heap.size 0 (opL x) ∧ wx.cell? ⟨wr.heap.size, 0, none⟩ = some (.int .i64 x.kind) ∧ (Instr.lookup 75 (.map (some m)) (.int .i64 x.kind) false).run Try.prog wx = .ok vF wx) := ⟨fun wx hb => ⟨blk_range (HX.out.below hb HX.out.lt), (HX.out.below hb HX.out.lt).c 0 (opA_0 x), (hlk wx hb).1⟩⟩
        clear hvF hlk
        simp only [Act.put]
        refine WL.nil ?_
        refine hK10 _ _ ?_
        refine wp_seq_k fun K11 hK11 => ?_
        have hD0 : Below wq.heap.size wq wq.drew := (Below.refl _ _).drew
        refine wp_region_held_drew (S := fun wx => wx.rangeAt wr.heap.size 0 (opL x) ∧ wx.cell? ⟨wr.heap.size, 0, none⟩ = some (.int .i64 x.kind) ∧ (Instr.lookup 75 (.map (some m)) (.int .i64 x.kind) false).run Try.prog wx = .ok vF wx) (by kernel_rfl) (HS0.out _ hD0) (fun hHeld => ?_)
        refine wpAnyH_take (i := 0) (oi := ⟨some 19, Op.load 59 (Operand.tmp 6), 59, _, _, none⟩) (v := .agg (opL x).toArray) rfl (by kernel_rfl) (by kernel_rfl) (by kernel_rfl) (fun _ _ _ h => h) (yieldsIf_load_mid (by rfl) 59 (Operand.tmp 6) rfl wr.heap.size 0 rfl (opL x) _ (fun w hS => hS.1) Try.underlying59 rfl (Try.size59L x)) hHeld ?_
        simp only [Act.put, List.setIfInBounds_toArray, List.set_cons_zero, List.set_cons_succ]
        refine wpAnyH_take (i := 1) (oi := ⟨some 20, Op.move (Operand.tmp 4), 75, _, _, none⟩) (v := .map (some m)) rfl (by kernel_rfl) (by kernel_rfl) (by kernel_rfl) (fun _ _ _ h => h) (Or.inl ⟨by rfl, fun w hS => by obtain ⟨hs1, hs2, hs3⟩ := hS; go_simp⟩) hHeld ?_
        simp only [Act.put, List.setIfInBounds_toArray, List.set_cons_zero, List.set_cons_succ]
        refine wpAnyH_take (i := 2) (oi := ⟨some 21, Op.fieldAddr 59 (Operand.tmp 6) 0, 0, _, _, none⟩) (v := .pointer (some ⟨wr.heap.size, 0, none⟩)) rfl (by kernel_rfl) (by kernel_rfl) (by kernel_rfl) (fun _ _ _ h => h) (Or.inl ⟨by rfl, fun w hS => by obtain ⟨hs1, hs2, hs3⟩ := hS; go_simp⟩) hHeld ?_
        simp only [Act.put, List.setIfInBounds_toArray, List.set_cons_zero, List.set_cons_succ]
        refine wpAnyH_take (i := 3) (oi := ⟨some 22, Op.load 3 (Operand.tmp 21), 3, _, _, none⟩) (v := .int .i64 x.kind) rfl (by kernel_rfl) (by kernel_rfl) (by kernel_rfl) (fun _ _ _ h => h) (Or.inl ⟨by rfl, fun w hS => by obtain ⟨hs1, hs2, hs3⟩ := hS; go_simp⟩) hHeld ?_
        simp only [Act.put, List.setIfInBounds_toArray, List.set_cons_zero, List.set_cons_succ]
        refine wpAnyH_take (i := 4) (oi := ⟨some 23, Op.lookup 75 (Operand.tmp 20) (Operand.tmp 22) false, 90, _, _, none⟩) (v := vF) rfl (by kernel_rfl) (by kernel_rfl) (by kernel_rfl) (fun _ _ _ h => h) (Or.inl ⟨by rfl, fun w hS => by obtain ⟨hs1, hs2, hs3⟩ := hS; go_simp⟩) hHeld ?_
        simp only [Act.put, List.setIfInBounds_toArray, List.set_cons_zero, List.set_cons_succ]
        refine wpAnyH_take (i := 5) (oi := ⟨some 24, Op.move (Operand.tmp 0), 36, _, _, none⟩) (v := .slice va l.length vc) rfl (by kernel_rfl) (by kernel_rfl) (by kernel_rfl) (fun _ _ _ h => h) (Or.inl ⟨by rfl, fun w hS => by obtain ⟨hs1, hs2, hs3⟩ := hS; go_simp⟩) hHeld ?_
        simp only [Act.put, List.setIfInBounds_toArray, List.set_cons_zero, List.set_cons_succ]
        refine wpAnyH_take (i := 6) (oi := ⟨some 25, Op.move (Operand.tmp 5), 3, _, _, none⟩) (v := .int .i64 (t : Int)) rfl (by kernel_rfl) (by kernel_rfl) (by kernel_rfl) (fun _ _ _ h => h) (Or.inl ⟨by rfl, fun w hS => by obtain ⟨hs1, hs2, hs3⟩ := hS; go_simp⟩) hHeld ?_
        simp only [Act.put, List.setIfInBounds_toArray, List.set_cons_zero, List.set_cons_succ]
        refine wpAnyH_take (i := 7) (oi := ⟨some 26, Op.slice 36 (Operand.tmp 24) none (some (Operand.tmp 25)) none, 36, _, _, none⟩) (v := .slice va t vc) rfl (by kernel_rfl) (by kernel_rfl) (by kernel_rfl) (fun _ _ _ h => h) (yieldsIf_slice (by rfl) 36 (Operand.tmp 24) (Operand.tmp 25) rfl (.slice va l.length vc) (.int .i64 (t : Int)) (.slice va t vc) rfl rfl (sl_run23 _ _ _ t Htk.out.1)) hHeld ?_
        simp only [Act.put, List.setIfInBounds_toArray, List.set_cons_zero, List.set_cons_succ]
        refine wpAnyH_ready (rs := [8]) (by kernel_rfl) (by simp) ?_
        refine AllReadyH.cons (o := ⟨some 27, Op.call { callee := Callee.value (Operand.func 39), args := #[Operand.tmp 19, Operand.tmp 23, Operand.tmp 26], argTypes := #[59, 90, 36] }, 50, _, _, none⟩) rfl (fun K hK => ?_) AllReadyH.nil
        rw [if_pos (by rfl)]
        refine wp_callF 39 _ _ rfl Try.in39 #[.agg (opA x), vF, .slice va t vc] (by simp [Act.eval, rng_load]) (fun vz wz => vz = .int .i64 (wrongV (l.take t) x) ∧ Below wq.heap.size wq wz) ?_ ?_
        · refine (wrong_any x vF _ (l.take t) wq.drew (HvF.out.below hD0) Hx.out (Htk.out.2.below (HG.out.trans (hD0.mono HG.out.size))) (by have := Hlb.out; rw [List.length_take]; omega)).mono ?_
          rintro e wz ⟨rfl, h⟩
          exact ⟨_, rfl, rfl, hD0.trans (h.mono hD0.size)⟩
        rintro vz w7 ⟨rfl, h7⟩
        have HB7 := Keep.mk h7
        clear h7
        refine hK.out _ _ (HS0.out _ HB7.out) fun hHeld2 => ?_
        clear hK
        simp only [Act.put, List.setIfInBounds_toArray, List.set_cons_zero, List.set_cons_succ]
        refine wpAnyH_take (i := 9) (oi := ⟨some 7, Op.assign (Operand.tmp 27), 50, _, _, none⟩) (v := .int .i64 (wrongV (l.take t) x)) rfl (by kernel_rfl) (by kernel_rfl) (by kernel_rfl) (fun _ _ _ h => h) (Or.inl ⟨by rfl, fun w hS => by obtain ⟨hs1, hs2, hs3⟩ := hS; go_simp⟩) hHeld2 ?_
        simp only [Act.put, List.setIfInBounds_toArray, List.set_cons_zero, List.set_cons_succ]
        refine wpAnyH_done (by kernel_rfl) ?_ _
        refine hK11 _ _ ?_
        refine wp_seq_k fun K12 hK12 => ?_
        refine wp_region_list (WL.out ?_)
        refine WL.val (by kernel_rfl) (.int .i64 (wrongV (l.take t) x)) (by go_simp) ?_
        simp only [Act.put, List.setIfInBounds_toArray, List.set_cons_zero, List.set_cons_succ]
        refine WL.val (by kernel_rfl) (.bool false) (by go_simp) ?_
        simp only [Act.put, List.setIfInBounds_toArray, List.set_cons_zero, List.set_cons_succ]
        refine WL.nil ?_
        refine hK12 _ _ ?_
        refine wp_cond_false rfl ?_
        refine wp_skip ?_
        refine hK9 _ _ ?_
        refine wp_region_list (WL.out ?_)
        refine WL.val (by kernel_rfl) (.int .i64 ((t : Int) + 1)) (by go_simp) ?_
        simp only [Act.put, List.setIfInBounds_toArray, List.set_cons_zero, List.set_cons_succ]
        refine WL.val (by kernel_rfl) (.int .i64 ((t : Int) + 1)) (by go_simp) ?_
        simp only [Act.put, List.setIfInBounds_toArray, List.set_cons_zero, List.set_cons_succ]
        refine WL.nil ?_
        rw [if_pos hW] at Hst
        have HB8 := Keep.mk (HG.out.trans (HB7.out.mono HG.out.size))
        refine ⟨⟨t + 1, u2, u3, .int .i64 (t : Int), .pointer (some ⟨wr.heap.size, 0, none⟩), .int .i64 (wrongV (l.take t) x), .bool true, .int .i64 (t : Int), .pointer (some ⟨gL, ofL + t * 37, none⟩), .agg (opA x), .agg (opL x).toArray, .map (some m), .pointer (some ⟨wr.heap.size, 0, none⟩), .int .i64 x.kind, vF, .slice va l.length vc, .int .i64 (t : Int), .slice va t vc, .int .i64 (wrongV (l.take t) x), .int .i64 (wrongV (l.take t) x), .bool false, u30, u31, .int .i64 ((t : Int) + 1), rfl, by omega, hC.trans Hst.out, HTl.out.below HB8.out, HLl.out.below HB8.out, HBl.out.trans (HB8.out.mono HBl.out.size)⟩, ?_⟩
        simp only [intOf]; show l.length - ((t : Int) + 1).toNat < l.length - ((t : Int)).toNat; omega
      · refine wp_seq_k fun K13 hK13 => ?_
        refine wp_region_list (WL.out ?_)
        refine WL.val (by kernel_rfl) (.bool true) (by go_simp) ?_
        simp only [Act.put, List.setIfInBounds_toArray, List.set_cons_zero, List.set_cons_succ]
        refine WL.nil ?_
        refine hK13 _ _ ?_
        refine wp_seq_k fun K14 hK14 => ?_
        refine wp_cond_true rfl ?_
        refine wp_skip ?_
        refine hK14 _ _ ?_
        refine wp_seq_k fun K15 hK15 => ?_
        refine wp_block ?_
        refine wp_seq_k fun K16 hK16 => ?_
        refine wp_region_list (WL.out ?_)
        refine WL.val (by kernel_rfl) (.int .i64 (t : Int)) (by go_simp) ?_
        simp only [Act.put, List.setIfInBounds_toArray, List.set_cons_zero, List.set_cons_succ]
        refine WL.val (by kernel_rfl) (.pointer (some ⟨gL, ofL + t * 37, none⟩)) (by go_simp) ?_
        simp only [Act.put, List.setIfInBounds_toArray, List.set_cons_zero, List.set_cons_succ]
        refine WL.mid (by kernel_rfl) 59 (.tmp 17) rfl gL (ofL + t * 37) rfl (opL x) _ hr Try.underlying59 rfl (Try.size59L x) ?_
        rw [rng_load]
        simp only [Act.put, List.setIfInBounds_toArray, List.set_cons_zero, List.set_cons_succ]
        refine WL.new (by kernel_rfl) 59 rfl _ Try.new59 ?_
        simp only [Act.put, List.setIfInBounds_toArray, List.set_cons_zero, List.set_cons_succ]
        refine WL.val (by kernel_rfl) (.int .i64 (t : Int)) (by go_simp) ?_
        simp only [Act.put, List.setIfInBounds_toArray, List.set_cons_zero, List.set_cons_succ]
        refine WL.storeR (by kernel_rfl) 59 (.tmp 6) (.tmp 18) rfl wr.heap.size (opA x) rfl rfl 59 (opA zeroOp) (Blk.new wr 59 _) (Try.size59B x) (opA_sizes _ _) (opA_one x) ?_
        have HX := Keep.mk ((Blk.new wr 59 (opA zeroOp)).setRow (opA x))
        have HG : Keep (Below wr.heap.size wr ((wr.alloc (.cells (opA zeroOp) 59)).setRow wr.heap.size (opA x))) := ⟨below_setRow (below_new wr _) (Nat.le_refl _) _⟩
        generalize (wr.alloc (.cells (opA zeroOp) 59)).setRow wr.heap.size (opA x) = wq at *
        obtain ⟨vF, hvF, hlk⟩ := (HTl.out.below HG.out).look2 x.kind
        have HvF := Keep.mk hvF
        have HS0 : Keep (∀ wx, Below wq.heap.size wq wx → wx.rangeAt wr.heap.size 0 (opL x) ∧ wx.cell? ⟨wr.heap.size, 0, none⟩ = some (.int .i64 x.kind) ∧ (Instr.lookup 75 (.map (some m)) (.int .i64 x.kind) false).run Try.prog wx = .ok vF wx) := ⟨fun wx hb => ⟨blk_range (HX.out.below hb HX.out.lt), (HX.out.below hb HX.out.lt).c 0 (opA_0 x), (hlk wx hb).1⟩⟩
        clear hvF hlk
        simp only [Act.put]
        refine WL.nil ?_
        refine hK16 _ _ ?_
        refine wp_seq_k fun K17 hK17 => ?_
        have hD0 : Below wq.heap.size wq wq.drew := (Below.refl _ _).drew
        refine wp_region_held_drew (S := fun wx => wx.rangeAt wr.heap.size 0 (opL x) ∧ wx.cell? ⟨wr.heap.size, 0, none⟩ = some (.int .i64 x.kind) ∧ (Instr.lookup 75 (.map (some m)) (.int .i64 x.kind) false).run Try.prog wx = .ok vF wx) (by kernel_rfl) (HS0.out _ hD0) (fun hHeld => ?_)
        refine wpAnyH_take (i := 0) (oi := ⟨some 19, Op.load 59 (Operand.tmp 6), 59, _, _, none⟩) (v := .agg (opL x).toArray) rfl (by kernel_rfl) (by kernel_rfl) (by kernel_rfl) (fun _ _ _ h => h) (yieldsIf_load_mid (by rfl) 59 (Operand.tmp 6) rfl wr.heap.size 0 rfl (opL x) _ (fun w hS => hS.1) Try.underlying59 rfl (Try.size59L x)) hHeld ?_
        simp only [Act.put, List.setIfInBounds_toArray, List.set_cons_zero, List.set_cons_succ]
        refine wpAnyH_take (i := 1) (oi := ⟨some 20, Op.move (Operand.tmp 4), 75, _, _, none⟩) (v := .map (some m)) rfl (by kernel_rfl) (by kernel_rfl) (by kernel_rfl) (fun _ _ _ h => h) (Or.inl ⟨by rfl, fun w hS => by obtain ⟨hs1, hs2, hs3⟩ := hS; go_simp⟩) hHeld ?_
        simp only [Act.put, List.setIfInBounds_toArray, List.set_cons_zero, List.set_cons_succ]
        refine wpAnyH_take (i := 2) (oi := ⟨some 21, Op.fieldAddr 59 (Operand.tmp 6) 0, 0, _, _, none⟩) (v := .pointer (some ⟨wr.heap.size, 0, none⟩)) rfl (by kernel_rfl) (by kernel_rfl) (by kernel_rfl) (fun _ _ _ h => h) (Or.inl ⟨by rfl, fun w hS => by obtain ⟨hs1, hs2, hs3⟩ := hS; go_simp⟩) hHeld ?_
        simp only [Act.put, List.setIfInBounds_toArray, List.set_cons_zero, List.set_cons_succ]
        refine wpAnyH_take (i := 3) (oi := ⟨some 22, Op.load 3 (Operand.tmp 21), 3, _, _, none⟩) (v := .int .i64 x.kind) rfl (by kernel_rfl) (by kernel_rfl) (by kernel_rfl) (fun _ _ _ h => h) (Or.inl ⟨by rfl, fun w hS => by obtain ⟨hs1, hs2, hs3⟩ := hS; go_simp⟩) hHeld ?_
        simp only [Act.put, List.setIfInBounds_toArray, List.set_cons_zero, List.set_cons_succ]
        refine wpAnyH_take (i := 4) (oi := ⟨some 23, Op.lookup 75 (Operand.tmp 20) (Operand.tmp 22) false, 90, _, _, none⟩) (v := vF) rfl (by kernel_rfl) (by kernel_rfl) (by kernel_rfl) (fun _ _ _ h => h) (Or.inl ⟨by rfl, fun w hS => by obtain ⟨hs1, hs2, hs3⟩ := hS; go_simp⟩) hHeld ?_
        simp only [Act.put, List.setIfInBounds_toArray, List.set_cons_zero, List.set_cons_succ]
        refine wpAnyH_take (i := 5) (oi := ⟨some 24, Op.move (Operand.tmp 0), 36, _, _, none⟩) (v := .slice va l.length vc) rfl (by kernel_rfl) (by kernel_rfl) (by kernel_rfl) (fun _ _ _ h => h) (Or.inl ⟨by rfl, fun w hS => by obtain ⟨hs1, hs2, hs3⟩ := hS; go_simp⟩) hHeld ?_
        simp only [Act.put, List.setIfInBounds_toArray, List.set_cons_zero, List.set_cons_succ]
        refine wpAnyH_take (i := 6) (oi := ⟨some 25, Op.move (Operand.tmp 5), 3, _, _, none⟩) (v := .int .i64 (t : Int)) rfl (by kernel_rfl) (by kernel_rfl) (by kernel_rfl) (fun _ _ _ h => h) (Or.inl ⟨by rfl, fun w hS => by obtain ⟨hs1, hs2, hs3⟩ := hS; go_simp⟩) hHeld ?_
        simp only [Act.put, List.setIfInBounds_toArray, List.set_cons_zero, List.set_cons_succ]
        refine wpAnyH_take (i := 7) (oi := ⟨some 26, Op.slice 36 (Operand.tmp 24) none (some (Operand.tmp 25)) none, 36, _, _, none⟩) (v := .slice va t vc) rfl (by kernel_rfl) (by kernel_rfl) (by kernel_rfl) (fun _ _ _ h => h) (yieldsIf_slice (by rfl) 36 (Operand.tmp 24) (Operand.tmp 25) rfl (.slice va l.length vc) (.int .i64 (t : Int)) (.slice va t vc) rfl rfl (sl_run23 _ _ _ t Htk.out.1)) hHeld ?_
        simp only [Act.put, List.setIfInBounds_toArray, List.set_cons_zero, List.set_cons_succ]
        refine wpAnyH_ready (rs := [8]) (by kernel_rfl) (by simp) ?_
        refine AllReadyH.cons (o := ⟨some 27, Op.call { callee := Callee.value (Operand.func 39), args := #[Operand.tmp 19, Operand.tmp 23, Operand.tmp 26], argTypes := #[59, 90, 36] }, 50, _, _, none⟩) rfl (fun K hK => ?_) AllReadyH.nil
        rw [if_pos (by rfl)]
        refine wp_callF 39 _ _ rfl Try.in39 #[.agg (opA x), vF, .slice va t vc] (by simp [Act.eval, rng_load]) (fun vz wz => vz = .int .i64 (wrongV (l.take t) x) ∧ Below wq.heap.size wq wz) ?_ ?_
        · refine (wrong_any x vF _ (l.take t) wq.drew (HvF.out.below hD0) Hx.out (Htk.out.2.below (HG.out.trans (hD0.mono HG.out.size))) (by have := Hlb.out; rw [List.length_take]; omega)).mono ?_
          rintro e wz ⟨rfl, h⟩
          exact ⟨_, rfl, rfl, hD0.trans (h.mono hD0.size)⟩
        rintro vz w7 ⟨rfl, h7⟩
        have HB7 := Keep.mk h7
        clear h7
        refine hK.out _ _ (HS0.out _ HB7.out) fun hHeld2 => ?_
        clear hK
        simp only [Act.put, List.setIfInBounds_toArray, List.set_cons_zero, List.set_cons_succ]
        refine wpAnyH_take (i := 9) (oi := ⟨some 7, Op.assign (Operand.tmp 27), 50, _, _, none⟩) (v := .int .i64 (wrongV (l.take t) x)) rfl (by kernel_rfl) (by kernel_rfl) (by kernel_rfl) (fun _ _ _ h => h) (Or.inl ⟨by rfl, fun w hS => by obtain ⟨hs1, hs2, hs3⟩ := hS; go_simp⟩) hHeld2 ?_
        simp only [Act.put, List.setIfInBounds_toArray, List.set_cons_zero, List.set_cons_succ]
        refine wpAnyH_done (by kernel_rfl) ?_ _
        refine hK17 _ _ ?_
        refine wp_seq_k fun K18 hK18 => ?_
        refine wp_region_list (WL.out ?_)
        refine WL.val (by kernel_rfl) (.int .i64 (wrongV (l.take t) x)) (by go_simp) ?_
        simp only [Act.put, List.setIfInBounds_toArray, List.set_cons_zero, List.set_cons_succ]
        refine WL.val (by kernel_rfl) (.bool true) (by go_simp) ?_
        simp only [Act.put, List.setIfInBounds_toArray, List.set_cons_zero, List.set_cons_succ]
        refine WL.nil ?_
        refine hK18 _ _ ?_
        refine wp_cond_true rfl ?_
        refine wp_seq_k fun K19 hK19 => ?_
        refine wp_region_list (WL.out ?_)
        refine WL.val (by kernel_rfl) (.int .i64 (wrongV (l.take t) x)) (by go_simp) ?_
        simp only [Act.put, List.setIfInBounds_toArray, List.set_cons_zero, List.set_cons_succ]
        refine WL.val (by kernel_rfl) (.int .i64 (t : Int)) (by go_simp) ?_
        simp only [Act.put, List.setIfInBounds_toArray, List.set_cons_zero, List.set_cons_succ]
        refine WL.val (by kernel_rfl) (.int .i64 (wrongV (l.take t) x)) (by go_simp) ?_
        simp only [Act.put, List.setIfInBounds_toArray, List.set_cons_zero, List.set_cons_succ]
        refine WL.val (by kernel_rfl) (.int .i64 (t : Int)) (by go_simp) ?_
        simp only [Act.put, List.setIfInBounds_toArray, List.set_cons_zero, List.set_cons_succ]
        refine WL.nil ?_
        refine hK19 _ _ ?_
        refine wp_ret ?_
        rw [if_neg hW] at Hst
        go_ret2
        exact ⟨by rw [HR.out, hC, Hst.out]; rfl, HBl.out.trans ((HG.out.trans (HB7.out.mono HG.out.size)).mono HBl.out.size)⟩
    · obtain rfl : t = l.length := by omega
      have htl' : ¬ (l.length : Int) < (l.length : Int) := by omega
      refine wp_seq_k fun K20 hK20 => ?_
      refine wp_region_list (WL.out ?_)
      refine WL.val (by kernel_rfl) (.bool false) (by go_simp) ?_
      simp only [Act.put, List.setIfInBounds_toArray, List.set_cons_zero, List.set_cons_succ]
      refine WL.nil ?_
      refine hK20 _ _ ?_
      refine wp_seq_k fun K21 hK21 => ?_
      refine wp_cond_false rfl ?_
      refine wp_exit ?_
      refine hK5 _ _ ?_
      refine wp_seq_k fun K22 hK22 => ?_
      refine wp_region_list (WL.out ?_)
      refine WL.val (by kernel_rfl) (.int .i64 0) (by go_simp) ?_
      simp only [Act.put, List.setIfInBounds_toArray, List.set_cons_zero, List.set_cons_succ]
      refine WL.val (by kernel_rfl) (.int .i64 0) (by go_simp) ?_
      simp only [Act.put, List.setIfInBounds_toArray, List.set_cons_zero, List.set_cons_succ]
      refine WL.nil ?_
      refine hK22 _ _ ?_
      refine wp_ret ?_
      go_ret2
      exact ⟨by rw [HR.out, hC, List.drop_length]; rfl, hB⟩

def putF (i : Nat) (x : OpV) : List Int := if i = 0 then bform (lst x.key) else if i = 1 then bform (lst x.text) else if i = 2 then numL (zig x.n) else numL x.op.toNat ++ (if x.op = 0 then [] else hl 32 (hof x.node))
theorem OutAt.below {w w' : World} {p : Nat} {v : Value} {l : List Int} (h : OutAt w p v l) (hb : Below w.heap.size w w') : OutAt w' p v l :=
  h.grown (Grown.below (S := fun _ => False) hb) fun _ _ h => h
theorem OutAt.off {w : World} {p : Nat} {v : Value} {l : List Int} (h : OutAt w p v l) {g : Nat} {T : TypeId} {cs : Array Value} (hg : Blk w g T cs) (h1 : T ≠ 87) (h2 : T ≠ 5) : ¬ OF p v g := by
  rintro (rfl | e)
  · exact h1 (blk_type hg h.blk)
  · exact h.own.ne hg h2 e
theorem OutAt.offT {w : World} {p : Nat} {v : Value} {l : List Int} (h : OutAt w p v l) {m : Nat} (ht : TabAt w m) : ¬ OF p v m := by
  rintro (rfl | e)
  · exact ht.ne h.blk rfl
  · rcases h.own.form with ⟨rfl, _⟩ | ⟨g, cap, cur, rfl, hg, _⟩
    · simp [Value.ownBlock] at e
    · simp [Value.ownBlock] at e
      subst e
      exact ht.ne hg rfl
theorem OutAt.tab {w w' : World} {p : Nat} {v : Value} {l : List Int} (h : OutAt w p v l) {m : Nat} (ht : TabAt w m) (hg : Grown w w' (OF p v)) : TabAt w' m :=
  ht.grown hg (h.offT ht) fun _ _ hb => h.off hb (by decide) (by decide)
theorem OutAt.keeps {w w' : World} {p : Nat} {v : Value} {l : List Int} (h : OutAt w p v l) {g : Nat} {T : TypeId} {cs : Array Value} (hb : Blk w g T cs) (h1 : T ≠ 87) (h2 : T ≠ 5) (hg : Grown w w' (OF p v)) : Blk w' g T cs := hg.blk hb (h.off hb h1 h2)
theorem OutAt.fields {w w' : World} {p : Nat} {v : Value} {l : List Int} (h : OutAt w p v l) {u : Value} {is : List Nat} (hf : FieldsAt w u is) (hg : Grown w w' (OF p v)) : FieldsAt w' u is :=
  hf.grown hg fun _ hb => h.off hb (by decide) (by decide)
theorem put0_any (p : Nat) (v : Value) (l : List Int) (x : OpV) (w : World) (h : OutAt w p v l) (hx : OpOk x) (hb : l.length + (putF 0 x).length ≤ 200000000000000) :
    Calls Try.prog 64 #[ptr p, .agg (opA x)] w (OutPost p v (l ++ putF 0 x) w) := by
  have e : putF 0 x = bform (lst x.key) := rfl
  rw [e] at hb ⊢
  have HO : Keep (OutAt (w.alloc (.cells (opA x) 59)) p v l) := ⟨h.box _⟩
  have HB := Keep.mk (Blk.new w 59 (opA x))
  obtain ⟨w1, hw1⟩ : ∃ w1, Keep (w.alloc (.cells (opA x) 59) = w1) := ⟨_, ⟨rfl⟩⟩
  rw [hw1.out] at HB HO
  have Hb := Keep.mk hb
  have Hx := Keep.mk hx
  have c1 := HB.out.c 1 (opA_1 x)
  clear h hb hx e
  go_enter Try.func64, Try.ntmps64
  refine wp_seq_k fun K1 hK1 => ?_
  refine wp_region_list (WL.out ?_)
  refine WL.box (by kernel_rfl) 59 (.tmp 1) rfl (opA x) rfl ?_
  rw [hw1.out]
  simp only [Act.put, List.setIfInBounds_toArray, List.set_cons_zero, List.set_cons_succ]
  refine WL.nil ?_
  refine hK1 _ _ ?_
  refine wp_region_list (WL.out ?_)
  refine WL.val (by kernel_rfl) (.pointer (some ⟨p, 0, none⟩)) (by go_simp) ?_
  simp only [Act.put, List.setIfInBounds_toArray, List.set_cons_zero, List.set_cons_succ]
  refine WL.val (by kernel_rfl) (.pointer (some ⟨w.heap.size, 1, none⟩)) (by go_simp) ?_
  simp only [Act.put, List.setIfInBounds_toArray, List.set_cons_zero, List.set_cons_succ]
  refine WL.val (by kernel_rfl) (.string x.key) (by go_simp) ?_
  simp only [Act.put, List.setIfInBounds_toArray, List.set_cons_zero, List.set_cons_succ]
  refine WL.callF (by kernel_rfl) 65 _ _ rfl Try.in65 #[ptr p, .string x.key] (by simp [Act.eval]) ?_
  refine (otext_any p v l x.key w1 HO.out Hb.out Hx.out.key).mono ?_
  rintro e w2 hp
  obtain ⟨rfl, hq⟩ := hp
  refine ⟨_, rfl, ?_⟩
  have HP := Keep.mk hq
  clear hq
  simp only [Act.put, List.setIfInBounds_toArray, List.set_cons_zero, List.set_cons_succ]
  refine WL.nil ?_
  go_end0
  exact OutPost.box (o := .cells (opA x) 59) (by rw [hw1.out]; exact ⟨rfl, HP.out⟩)
theorem put1_any (p : Nat) (v : Value) (l : List Int) (x : OpV) (w : World) (h : OutAt w p v l) (hx : OpOk x) (hb : l.length + (putF 1 x).length ≤ 200000000000000) :
    Calls Try.prog 69 #[ptr p, .agg (opA x)] w (OutPost p v (l ++ putF 1 x) w) := by
  have e : putF 1 x = bform (lst x.text) := rfl
  rw [e] at hb ⊢
  have HO : Keep (OutAt (w.alloc (.cells (opA x) 59)) p v l) := ⟨h.box _⟩
  have HB := Keep.mk (Blk.new w 59 (opA x))
  obtain ⟨w1, hw1⟩ : ∃ w1, Keep (w.alloc (.cells (opA x) 59) = w1) := ⟨_, ⟨rfl⟩⟩
  rw [hw1.out] at HB HO
  have Hb := Keep.mk hb
  have Hx := Keep.mk hx
  have c1 := HB.out.c 2 (opA_2 x)
  clear h hb hx e
  go_enter Try.func69, Try.ntmps69
  refine wp_seq_k fun K1 hK1 => ?_
  refine wp_region_list (WL.out ?_)
  refine WL.box (by kernel_rfl) 59 (.tmp 1) rfl (opA x) rfl ?_
  rw [hw1.out]
  simp only [Act.put, List.setIfInBounds_toArray, List.set_cons_zero, List.set_cons_succ]
  refine WL.nil ?_
  refine hK1 _ _ ?_
  refine wp_region_list (WL.out ?_)
  refine WL.val (by kernel_rfl) (.pointer (some ⟨p, 0, none⟩)) (by go_simp) ?_
  simp only [Act.put, List.setIfInBounds_toArray, List.set_cons_zero, List.set_cons_succ]
  refine WL.val (by kernel_rfl) (.pointer (some ⟨w.heap.size, 2, none⟩)) (by go_simp) ?_
  simp only [Act.put, List.setIfInBounds_toArray, List.set_cons_zero, List.set_cons_succ]
  refine WL.val (by kernel_rfl) (.string x.text) (by go_simp) ?_
  simp only [Act.put, List.setIfInBounds_toArray, List.set_cons_zero, List.set_cons_succ]
  refine WL.callF (by kernel_rfl) 65 _ _ rfl Try.in65 #[ptr p, .string x.text] (by simp [Act.eval]) ?_
  refine (otext_any p v l x.text w1 HO.out Hb.out Hx.out.text).mono ?_
  rintro e w2 hp
  obtain ⟨rfl, hq⟩ := hp
  refine ⟨_, rfl, ?_⟩
  have HP := Keep.mk hq
  clear hq
  simp only [Act.put, List.setIfInBounds_toArray, List.set_cons_zero, List.set_cons_succ]
  refine WL.nil ?_
  go_end0
  exact OutPost.box (o := .cells (opA x) 59) (by rw [hw1.out]; exact ⟨rfl, HP.out⟩)
theorem put2_any (p : Nat) (v : Value) (l : List Int) (x : OpV) (w : World) (h : OutAt w p v l) (hx : OpOk x) (hb : l.length + (putF 2 x).length ≤ 200000000000000) :
    Calls Try.prog 72 #[ptr p, .agg (opA x)] w (OutPost p v (l ++ putF 2 x) w) := by
  have e : putF 2 x = numL (zig x.n) := rfl
  rw [e] at hb ⊢
  have HO : Keep (OutAt (w.alloc (.cells (opA x) 59)) p v l) := ⟨h.box _⟩
  have HB := Keep.mk (Blk.new w 59 (opA x))
  obtain ⟨w1, hw1⟩ : ∃ w1, Keep (w.alloc (.cells (opA x) 59) = w1) := ⟨_, ⟨rfl⟩⟩
  rw [hw1.out] at HB HO
  have Hb := Keep.mk hb
  have Hx := Keep.mk hx
  have c1 := HB.out.c 3 (opA_3 x)
  clear h hb hx e
  go_enter Try.func72, Try.ntmps72
  refine wp_seq_k fun K1 hK1 => ?_
  refine wp_region_list (WL.out ?_)
  refine WL.box (by kernel_rfl) 59 (.tmp 1) rfl (opA x) rfl ?_
  rw [hw1.out]
  simp only [Act.put, List.setIfInBounds_toArray, List.set_cons_zero, List.set_cons_succ]
  refine WL.nil ?_
  refine hK1 _ _ ?_
  refine wp_region_list (WL.out ?_)
  refine WL.val (by kernel_rfl) (.pointer (some ⟨p, 0, none⟩)) (by go_simp) ?_
  simp only [Act.put, List.setIfInBounds_toArray, List.set_cons_zero, List.set_cons_succ]
  refine WL.val (by kernel_rfl) (.pointer (some ⟨w.heap.size, 3, none⟩)) (by go_simp) ?_
  simp only [Act.put, List.setIfInBounds_toArray, List.set_cons_zero, List.set_cons_succ]
  refine WL.val (by kernel_rfl) (.int .i64 x.n) (by go_simp) ?_
  simp only [Act.put, List.setIfInBounds_toArray, List.set_cons_zero, List.set_cons_succ]
  refine WL.callF (by kernel_rfl) 73 _ _ rfl Try.in73 #[ptr p, .int .i64 x.n] (by simp [Act.eval]) ?_
  refine (osigned_any p v l x.n w1 HO.out Hx.out.n1 Hx.out.n2 (by have := Hb.out; rw [List.length_append]; exact this)).mono ?_
  rintro e w2 hp
  obtain ⟨rfl, hq⟩ := hp
  refine ⟨_, rfl, ?_⟩
  have HP := Keep.mk hq
  clear hq
  simp only [Act.put, List.setIfInBounds_toArray, List.set_cons_zero, List.set_cons_succ]
  refine WL.nil ?_
  go_end0
  exact OutPost.box (o := .cells (opA x) 59) (by rw [hw1.out]; exact ⟨rfl, HP.out⟩)
theorem put3_any (p : Nat) (v : Value) (l : List Int) (x : OpV) (w : World) (h : OutAt w p v l) (hx : OpOk x) (ho1 : 0 ≤ x.op) (ho2 : x.op ≤ 1024) (hb : l.length + (putF 3 x).length ≤ 200000000000000) :
    Calls Try.prog 77 #[ptr p, .agg (opA x)] w (OutPost p v (l ++ putF 3 x) w) := by
  obtain ⟨n, hn⟩ : ∃ n : Nat, x.op = (n : Int) := ⟨x.op.toNat, by omega⟩
  have e : putF 3 x = numL n ++ (if x.op = 0 then [] else hl 32 (hof x.node)) := by
    show numL x.op.toNat ++ _ = _
    rw [hn, Int.toNat_natCast]
  rw [e] at hb ⊢
  have HO : Keep (OutAt (w.alloc (.cells (opA x) 59)) p v l) := ⟨h.box _⟩
  have HB := Keep.mk (Blk.new w 59 (opA x))
  obtain ⟨w1, hw1⟩ : ∃ w1, Keep (w.alloc (.cells (opA x) 59) = w1) := ⟨_, ⟨rfl⟩⟩
  rw [hw1.out] at HB HO
  have Hb := Keep.mk hb
  have Hx := Keep.mk hx
  have c36 := HB.out.c 36 (opA_36 x)
  have Hn : Keep (n ≤ 1024) := ⟨by omega⟩
  have hwn : IntKind.u64.wrap x.op = (n : Int) := by rw [hn, IntKind.wrap_u64]; have := Hn.out; omega
  rw [List.length_append] at Hb
  clear h hb hx e
  go_enter Try.func77, Try.ntmps77
  by_cases h0 : x.op = 0
  · rw [if_pos h0] at Hb ⊢
    rw [h0] at hwn
    clear hn
    refine wp_seq_k fun K1 hK1 => ?_
    refine wp_region_list (WL.out ?_)
    refine WL.box (by kernel_rfl) 59 (.tmp 1) rfl (opA x) rfl ?_
    rw [hw1.out]
    simp only [Act.put, List.setIfInBounds_toArray, List.set_cons_zero, List.set_cons_succ]
    refine WL.nil ?_
    refine hK1 _ _ ?_
    refine wp_seq_k fun K2 hK2 => ?_
    refine wp_region_list (WL.out ?_)
    refine WL.val (by kernel_rfl) (.pointer (some ⟨p, 0, none⟩)) (by go_simp) ?_
    simp only [Act.put, List.setIfInBounds_toArray, List.set_cons_zero, List.set_cons_succ]
    refine WL.val (by kernel_rfl) (.pointer (some ⟨w.heap.size, 4, none⟩)) (by go_simp) ?_
    simp only [Act.put, List.setIfInBounds_toArray, List.set_cons_zero, List.set_cons_succ]
    refine WL.val (by kernel_rfl) (.pointer (some ⟨w.heap.size, 36, none⟩)) (by go_simp) ?_
    simp only [Act.put, List.setIfInBounds_toArray, List.set_cons_zero, List.set_cons_succ]
    refine WL.val (by kernel_rfl) (.int .i64 x.op) (by go_simp) ?_
    simp only [Act.put, List.setIfInBounds_toArray, List.set_cons_zero, List.set_cons_succ]
    refine WL.val (by kernel_rfl) (.int .u64 (n : Int)) (by go_simp) ?_
    simp only [Act.put, List.setIfInBounds_toArray, List.set_cons_zero, List.set_cons_succ]
    refine WL.callF (by kernel_rfl) 37 _ _ rfl Try.in37 #[ptr p, .int .u64 (n : Int)] (by simp [Act.eval]) ?_
    refine (onum_any p v l n w1 HO.out (by have := Hn.out; omega) (by have := Hb.out; rw [List.length_append]; omega)).mono ?_
    rintro e w2 hp
    obtain ⟨rfl, v2, hO2, hm2, hg2⟩ := hp
    refine ⟨_, rfl, ?_⟩
    have HO2 := Keep.mk hO2
    have HM2 := Keep.mk hm2
    have HG2 := Keep.mk hg2
    have HB2 := Keep.mk (HO.out.keeps HB.out (by decide) (by decide) hg2)
    have d36 := HB2.out.c 36 (opA_36 x)
    clear hO2 hm2 hg2
    simp only [Act.put, List.setIfInBounds_toArray, List.set_cons_zero, List.set_cons_succ]
    refine WL.nil ?_
    refine hK2 _ _ ?_
    refine wp_seq_k fun K3 hK3 => ?_
    refine wp_region_list (WL.out ?_)
    refine WL.val (by kernel_rfl) (.pointer (some ⟨w.heap.size, 4, none⟩)) (by go_simp) ?_
    simp only [Act.put, List.setIfInBounds_toArray, List.set_cons_zero, List.set_cons_succ]
    refine WL.val (by kernel_rfl) (.pointer (some ⟨w.heap.size, 36, none⟩)) (by go_simp) ?_
    simp only [Act.put, List.setIfInBounds_toArray, List.set_cons_zero, List.set_cons_succ]
    refine WL.val (by kernel_rfl) (.int .i64 x.op) (by go_simp) ?_
    simp only [Act.put, List.setIfInBounds_toArray, List.set_cons_zero, List.set_cons_succ]
    refine WL.val (by kernel_rfl) (.bool false) (by go_simp) ?_
    simp only [Act.put, List.setIfInBounds_toArray, List.set_cons_zero, List.set_cons_succ]
    refine WL.nil ?_
    refine hK3 _ _ ?_
    refine wp_cond_false rfl ?_
    refine wp_skip ?_
    go_end0
    exact OutPost.box (o := .cells (opA x) 59) (by rw [hw1.out, List.append_nil]; exact ⟨rfl, v2, HO2.out, HM2.out, HG2.out⟩)
  · rw [if_neg h0, hl_len] at Hb
    rw [if_neg h0]
    clear hn
    refine wp_seq_k fun K1 hK1 => ?_
    refine wp_region_list (WL.out ?_)
    refine WL.box (by kernel_rfl) 59 (.tmp 1) rfl (opA x) rfl ?_
    rw [hw1.out]
    simp only [Act.put, List.setIfInBounds_toArray, List.set_cons_zero, List.set_cons_succ]
    refine WL.nil ?_
    refine hK1 _ _ ?_
    refine wp_seq_k fun K2 hK2 => ?_
    refine wp_region_list (WL.out ?_)
    refine WL.val (by kernel_rfl) (.pointer (some ⟨p, 0, none⟩)) (by go_simp) ?_
    simp only [Act.put, List.setIfInBounds_toArray, List.set_cons_zero, List.set_cons_succ]
    refine WL.val (by kernel_rfl) (.pointer (some ⟨w.heap.size, 4, none⟩)) (by go_simp) ?_
    simp only [Act.put, List.setIfInBounds_toArray, List.set_cons_zero, List.set_cons_succ]
    refine WL.val (by kernel_rfl) (.pointer (some ⟨w.heap.size, 36, none⟩)) (by go_simp) ?_
    simp only [Act.put, List.setIfInBounds_toArray, List.set_cons_zero, List.set_cons_succ]
    refine WL.val (by kernel_rfl) (.int .i64 x.op) (by go_simp) ?_
    simp only [Act.put, List.setIfInBounds_toArray, List.set_cons_zero, List.set_cons_succ]
    refine WL.val (by kernel_rfl) (.int .u64 (n : Int)) (by go_simp) ?_
    simp only [Act.put, List.setIfInBounds_toArray, List.set_cons_zero, List.set_cons_succ]
    refine WL.callF (by kernel_rfl) 37 _ _ rfl Try.in37 #[ptr p, .int .u64 (n : Int)] (by simp [Act.eval]) ?_
    refine (onum_any p v l n w1 HO.out (by have := Hn.out; omega) (by have := Hb.out; rw [List.length_append]; omega)).mono ?_
    rintro e w2 hp
    obtain ⟨rfl, v2, hO2, hm2, hg2⟩ := hp
    refine ⟨_, rfl, ?_⟩
    have HO2 := Keep.mk hO2
    have HM2 := Keep.mk hm2
    have HG2 := Keep.mk hg2
    have HB2 := Keep.mk (HO.out.keeps HB.out (by decide) (by decide) hg2)
    have d36 := HB2.out.c 36 (opA_36 x)
    clear hO2 hm2 hg2
    simp only [Act.put, List.setIfInBounds_toArray, List.set_cons_zero, List.set_cons_succ]
    refine WL.nil ?_
    refine hK2 _ _ ?_
    refine wp_seq_k fun K3 hK3 => ?_
    refine wp_region_list (WL.out ?_)
    refine WL.val (by kernel_rfl) (.pointer (some ⟨w.heap.size, 4, none⟩)) (by go_simp) ?_
    simp only [Act.put, List.setIfInBounds_toArray, List.set_cons_zero, List.set_cons_succ]
    refine WL.val (by kernel_rfl) (.pointer (some ⟨w.heap.size, 36, none⟩)) (by go_simp) ?_
    simp only [Act.put, List.setIfInBounds_toArray, List.set_cons_zero, List.set_cons_succ]
    refine WL.val (by kernel_rfl) (.int .i64 x.op) (by go_simp) ?_
    simp only [Act.put, List.setIfInBounds_toArray, List.set_cons_zero, List.set_cons_succ]
    refine WL.val (by kernel_rfl) (.bool true) (by go_simp) ?_
    simp only [Act.put, List.setIfInBounds_toArray, List.set_cons_zero, List.set_cons_succ]
    refine WL.nil ?_
    refine hK3 _ _ ?_
    refine wp_cond_true rfl ?_
    refine wp_region_list (WL.out ?_)
    refine WL.val (by kernel_rfl) (.pointer (some ⟨p, 0, none⟩)) (by go_simp) ?_
    simp only [Act.put, List.setIfInBounds_toArray, List.set_cons_zero, List.set_cons_succ]
    refine WL.val (by kernel_rfl) (.pointer (some ⟨w.heap.size, 4, none⟩)) (by go_simp) ?_
    simp only [Act.put, List.setIfInBounds_toArray, List.set_cons_zero, List.set_cons_succ]
    refine WL.val (by kernel_rfl) (.pointer (some ⟨w.heap.size, 4, none⟩)) (by go_simp) ?_
    simp only [Act.put, List.setIfInBounds_toArray, List.set_cons_zero, List.set_cons_succ]
    refine WL.midA (by kernel_rfl) 55 (.tmp 16) rfl w.heap.size 4 rfl (bytesA 32 (hof x.node)) _ (opA_nodes HB2.out) Try.underlying55 rfl (Try.size55B _) ?_
    simp only [Act.put, List.setIfInBounds_toArray, List.set_cons_zero, List.set_cons_succ]
    refine WL.callF (by kernel_rfl) 83 _ _ rfl Try.in83 #[ptr p, .agg (bytesA 32 (hof x.node))] (by simp [Act.eval]) ?_
    refine (ohash_any p v2 (l ++ numL n) (hof x.node) w2 HO2.out (by have := Hb.out; rw [List.length_append]; omega)).mono ?_
    rintro e w3 hp
    obtain ⟨rfl, hq⟩ := hp
    refine ⟨_, rfl, ?_⟩
    have HP := Keep.mk hq
    clear hq
    simp only [Act.put, List.setIfInBounds_toArray, List.set_cons_zero, List.set_cons_succ]
    refine WL.nil ?_
    go_end0
    exact OutPost.box (o := .cells (opA x) 59) (by rw [hw1.out, ← List.append_assoc]; exact OutPost.trans HM2.out HG2.out ⟨rfl, HP.out⟩)

def oneF (x : OpV) : List Int := x.kind :: (hasI x.kind).flatMap fun i => putF i x
def formL (l : List OpV) : List Int := numL l.length ++ l.flatMap oneF
theorem fm_next {α β : Type} (f : α → List β) (l : List α) (t : Nat) (ht : t < l.length) (d : α) : (l.take (t + 1)).flatMap f = (l.take t).flatMap f ++ f (l.getD t d) := by
  rw [List.take_succ_eq_append_getElem ht, List.flatMap_append]
  simp [List.getD_eq_getElem?_getD, ht]
theorem fm_len {α β : Type} (f : α → List β) (l : List α) (t : Nat) : ((l.take t).flatMap f).length ≤ (l.flatMap f).length := by
  conv => rhs; rw [← List.take_append_drop t l, List.flatMap_append, List.length_append]
  omega
theorem chkF_ok : ∀ (r a : List OpV), (chkF a r).1 = 0 → ∀ i x, r[i]? = some x → wrongV (a ++ r.take i) x = 0
  | [], _, _, i, x, hx => by simp at hx
  | y :: r, a, h, i, x, hx => by
    rw [chkF] at h
    by_cases hw : wrongV a y = 0
    · rw [if_pos hw] at h
      cases i with
      | zero => simp at hx; subst hx; simpa using hw
      | succ i =>
        have := chkF_ok r (a ++ [y]) h i x (by simpa using hx)
        simpa [List.append_assoc] using this
    · rw [if_neg hw] at h
      exact absurd h hw
theorem chk_ok {l : List OpV} (h : (chk l).1 = 0) : l.length ≤ 1024 ∧ ∀ i x, l[i]? = some x → wrongV (l.take i) x = 0 := by
  unfold chk at h
  by_cases hl : 1024 < l.length
  · rw [if_pos hl] at h; simp at h
  · rw [if_neg hl] at h
    exact ⟨by omega, fun i x hx => by simpa using chkF_ok l [] h i x hx⟩
theorem wrongV_ok {a : List OpV} {x : OpV} (h : wrongV a x = 0) : hasI x.kind ≠ [] ∧ x.key.size ≤ 65536 ∧ x.text.size ≤ 65536 ∧ sm (wipes (hasI x.kind) { x with kind := 0 }) zeroOp = true ∧ (cellV x.kind = 4 → mayAt a x = true) := by
  unfold wrongV at h
  by_cases h1 : hasI x.kind = []
  · rw [if_pos h1] at h; simp at h
  rw [if_neg h1] at h
  by_cases h2 : 65536 < x.key.size
  · rw [if_pos h2] at h; simp at h
  rw [if_neg h2] at h
  by_cases h3 : 65536 < x.text.size
  · rw [if_pos h3] at h; simp at h
  rw [if_neg h3] at h
  cases h4 : sm (wipes (hasI x.kind) { x with kind := 0 }) zeroOp with
  | false => rw [if_pos h4] at h; simp at h
  | true =>
    rw [if_neg (by rw [h4]; decide)] at h
    refine ⟨h1, by omega, by omega, rfl, fun h5 => ?_⟩
    rw [if_pos h5] at h
    cases h6 : mayAt a x with
    | true => rfl
    | false => rw [h6] at h; simp at h
theorem mayAt_op {a : List OpV} {x : OpV} (ha : a.length ≤ 1024) (h : mayAt a x = true) : 0 ≤ x.op ∧ x.op ≤ 1024 := by
  unfold mayAt at h
  by_cases h1 : (nd x.node z32 && x.op == 0) = true
  · simp at h1; omega
  rw [if_neg h1] at h
  by_cases h2 : nd x.node z32 = false
  · rw [if_pos h2] at h; simp at h; omega
  rw [if_neg h2] at h
  by_cases h3 : x.op < 1 ∨ (a.length : Int) < x.op
  · rw [if_pos h3] at h; simp at h
  · omega
theorem hasI_mem {k : Int} (h : hasI k ≠ []) : k ∈ ([1, 2, 3, 4, 5, 6, 7, 8, 9] : List Int) := by
  by_cases hk : k ∈ ([1, 2, 3, 4, 5, 6, 7, 8, 9] : List Int)
  · exact hk
  · exact absurd (hasI_none k hk) h
theorem hasI_rng {k : Int} (h : hasI k ≠ []) : 1 ≤ k ∧ k ≤ 9 := by
  have := hasI_mem h
  simp only [List.mem_cons, List.not_mem_nil, or_false] at this
  omega
theorem hasI_three {k : Int} (h : 3 ∈ hasI k) : cellV k = 4 := by
  have h1 : hasI k ≠ [] := fun e => by rw [e] at h; simp at h
  have := hasI_mem h1
  simp only [List.mem_cons, List.not_mem_nil, or_false] at this
  rcases this with rfl | rfl | rfl | rfl | rfl | rfl | rfl | rfl | rfl <;> first | (exact absurd h (by decide)) | rfl
theorem Moved.mono {a b : World} {v v' : Value} (h : Moved b v v') (hs : a.heap.size ≤ b.heap.size) : Moved a v v' := (Moved.refl a v).trans hs h
set_option maxRecDepth 8000 in
set_option maxHeartbeats 2000000 in
theorem put_any (p : Nat) (v : Value) (L0 : List Int) (vl : Value) (l : List OpV) (w : World) (h : OutAt w p v L0) (hl : OpsAt w vl l) (hok : ∀ x ∈ l, OpOk x) (hb : l.length ≤ 4398046511104)
    (hsep : ∀ k, vl.ownBlock = some k → ¬ OF p v k) (hbb : (chk l).1 = 0 → L0.length + (formL l).length ≤ 200000000000000) :
    Calls Try.prog 20 #[ptr p, vl] w fun e w' => e = .returned (.int .i64 (chk l).1) ∧ ∃ v', OutAt w' p v' (if (chk l).1 = 0 then L0 ++ formL l else L0) ∧ Moved w v v' ∧ Grown w w' (OF p v) := by
  obtain ⟨va, vc, rfl⟩ := hl.form
  have HO := Keep.mk h
  have HL := Keep.mk hl
  have Hok := Keep.mk hok
  have Hlb := Keep.mk hb
  have Hsep := Keep.mk hsep
  have hb' : (l.length : Int) ≤ 9223372036854775807 := by omega
  have hwl : IntKind.u64.wrap (l.length : Int) = (l.length : Int) := by rw [IntKind.wrap_u64]; omega
  go_enter Try.func20, Try.ntmps20
  by_cases hC : (chk l).1 = 0
  · have Hbb := Keep.mk (hbb hC)
    have Hok2 := Keep.mk (chk_ok hC)
    have HC0 := Keep.mk hC
    clear h hl hok hb hsep hbb
    refine wp_seq_k fun K1 hK1 => ?_
    refine wp_region_list (WL.out ?_)
    refine WL.val (by kernel_rfl) (.int .i64 0) (by go_simp) ?_
    simp only [Act.put, List.setIfInBounds_toArray, List.set_cons_zero, List.set_cons_succ]
    refine WL.nil ?_
    refine hK1 _ _ ?_
    refine wp_seq_k fun K2 hK2 => ?_
    refine wp_seq_k fun K3 hK3 => ?_
    refine wp_region_list (WL.out ?_)
    refine WL.val (by kernel_rfl) (.slice va l.length vc) (by go_simp) ?_
    simp only [Act.put, List.setIfInBounds_toArray, List.set_cons_zero, List.set_cons_succ]
    refine WL.callF (by kernel_rfl) 26 _ _ rfl Try.in26 #[.slice va l.length vc] (by simp [Act.eval]) ?_
    refine (check_any _ l w HL.out Hok.out Hlb.out).mono ?_
    rintro e w1 ⟨rfl, h1⟩
    refine ⟨_, rfl, ?_⟩
    have HB1 := Keep.mk h1
    clear h1
    simp only [Act.put, List.setIfInBounds_toArray, List.set_cons_zero, List.set_cons_succ]
    refine WL.val (by kernel_rfl) (.tuple #[.int .i64 (chk l).1, .int .i64 ((chk l).2 : Int)]) (by go_simp) ?_
    simp only [Act.put, List.setIfInBounds_toArray, List.set_cons_zero, List.set_cons_succ]
    refine WL.val (by kernel_rfl) (.int .i64 (chk l).1) (by go_simp) ?_
    simp only [Act.put, List.setIfInBounds_toArray, List.set_cons_zero, List.set_cons_succ]
    refine WL.val (by kernel_rfl) (.int .i64 ((chk l).2 : Int)) (by go_simp) ?_
    simp only [Act.put, List.setIfInBounds_toArray, List.set_cons_zero, List.set_cons_succ]
    refine WL.val (by kernel_rfl) (.int .i64 (chk l).1) (by go_simp) ?_
    simp only [Act.put, List.setIfInBounds_toArray, List.set_cons_zero, List.set_cons_succ]
    refine WL.val (by kernel_rfl) (.int .i64 ((chk l).2 : Int)) (by go_simp) ?_
    simp only [Act.put, List.setIfInBounds_toArray, List.set_cons_zero, List.set_cons_succ]
    refine WL.nil ?_
    refine hK3 _ _ ?_
    refine wp_seq_k fun K4 hK4 => ?_
    refine wp_region_list (WL.out ?_)
    refine WL.val (by kernel_rfl) (.int .i64 (chk l).1) (by go_simp) ?_
    simp only [Act.put, List.setIfInBounds_toArray, List.set_cons_zero, List.set_cons_succ]
    refine WL.val (by kernel_rfl) (.bool false) (by go_simp) ?_
    simp only [Act.put, List.setIfInBounds_toArray, List.set_cons_zero, List.set_cons_succ]
    refine WL.nil ?_
    refine hK4 _ _ ?_
    refine wp_cond_false rfl ?_
    refine wp_skip ?_
    refine hK2 _ _ ?_
    refine wp_seq_k fun K5 hK5 => ?_
    refine wp_region_list (WL.out ?_)
    refine WL.callF (by kernel_rfl) 33 _ _ rfl Try.in33 #[] (by simp) ?_
    refine (tab_any w1).mono ?_
    rintro e w2 ⟨m, rfl, hT2, hm2, hB2⟩
    refine ⟨_, rfl, ?_⟩
    have HB2 := Keep.mk (HB1.out.trans (hB2.mono HB1.out.size))
    have HT2 := Keep.mk hT2
    have HO2 := Keep.mk (HO.out.below HB2.out)
    clear hT2 hm2 hB2
    simp only [Act.put, List.setIfInBounds_toArray, List.set_cons_zero, List.set_cons_succ]
    refine WL.val (by kernel_rfl) (.map (some m)) (by go_simp) ?_
    simp only [Act.put, List.setIfInBounds_toArray, List.set_cons_zero, List.set_cons_succ]
    refine WL.nil ?_
    refine hK5 _ _ ?_
    refine wp_seq_k fun K6 hK6 => ?_
    refine wp_region_list (WL.out ?_)
    refine WL.val (by kernel_rfl) (.pointer (some ⟨p, 0, none⟩)) (by go_simp) ?_
    simp only [Act.put, List.setIfInBounds_toArray, List.set_cons_zero, List.set_cons_succ]
    refine WL.val (by kernel_rfl) (.slice va l.length vc) (by go_simp) ?_
    simp only [Act.put, List.setIfInBounds_toArray, List.set_cons_zero, List.set_cons_succ]
    refine WL.val (by kernel_rfl) (.int .i64 (l.length : Int)) (by go_simp) ?_
    simp only [Act.put, List.setIfInBounds_toArray, List.set_cons_zero, List.set_cons_succ]
    refine WL.val (by kernel_rfl) (.int .u64 (l.length : Int)) (by go_simp) ?_
    simp only [Act.put, List.setIfInBounds_toArray, List.set_cons_zero, List.set_cons_succ]
    refine WL.callF (by kernel_rfl) 37 _ _ rfl Try.in37 #[ptr p, .int .u64 (l.length : Int)] (by simp [Act.eval]) ?_
    refine (onum_any p v L0 l.length w2 HO2.out (by have := Hlb.out; omega) (by have := Hbb.out; unfold formL at this; rw [List.length_append] at this ⊢; omega)).mono ?_
    rintro e w4 hp
    obtain ⟨rfl, v4, hO4, hM4, hG4⟩ := hp
    refine ⟨_, rfl, ?_⟩
    have H4O := Keep.mk hO4
    have H4M : Keep (Moved w v v4) := ⟨hM4.mono HB2.out.size⟩
    have H4G : Keep (Grown w w4 (OF p v)) := ⟨(Grown.below HB2.out).trans hG4⟩
    have H4T := Keep.mk (HO2.out.tab HT2.out hG4)
    clear hO4 hM4 hG4
    simp only [Act.put, List.setIfInBounds_toArray, List.set_cons_zero, List.set_cons_succ]
    refine WL.nil ?_
    refine hK6 _ _ ?_
    refine wp_seq_k fun K7 hK7 => ?_
    refine wp_seq_k fun K8 hK8 => ?_
    refine wp_region_list (WL.out ?_)
    refine WL.val (by kernel_rfl) (.slice va l.length vc) (by go_simp) ?_
    simp only [Act.put, List.setIfInBounds_toArray, List.set_cons_zero, List.set_cons_succ]
    refine WL.val (by kernel_rfl) (.int .i64 (l.length : Int)) (by go_simp) ?_
    simp only [Act.put, List.setIfInBounds_toArray, List.set_cons_zero, List.set_cons_succ]
    refine WL.val (by kernel_rfl) (.int .i64 0) (by go_simp) ?_
    simp only [Act.put, List.setIfInBounds_toArray, List.set_cons_zero, List.set_cons_succ]
    refine WL.nil ?_
    refine hK8 _ _ ?_
    refine wp_block ?_
    refine wp_loop (fun a wr => ∃ (t : Nat) (u9 u11 u29 u30 u31 u32 u33 u34 u35 u36 u37 u38 u39 u40 u41 u42 u43 u44 u45 u46 u47 u48 u49 u50 u51 u52 : Value), a = { tmps := #[.pointer (some ⟨p, 0, none⟩), .slice va l.length vc, undef, undef, .int .i64 0, .int .i64 (chk l).1, .int .i64 ((chk l).2 : Int), .map (some m), undef, u9, undef, u11, .tuple #[.int .i64 (chk l).1, .int .i64 ((chk l).2 : Int)], .slice va l.length vc, .tuple #[.int .i64 (chk l).1, .int .i64 ((chk l).2 : Int)], .int .i64 (chk l).1, .int .i64 ((chk l).2 : Int), .int .i64 (chk l).1, .bool false, undef, .map (some m), .pointer (some ⟨p, 0, none⟩), .slice va l.length vc, .int .i64 (l.length : Int), .int .u64 (l.length : Int), .tuple #[], .slice va l.length vc, .int .i64 (l.length : Int), .int .i64 (t : Int), u29, u30, u31, u32, u33, u34, u35, u36, u37, u38, u39, u40, u41, u42, u43, u44, u45, u46, u47, u48, u49, u50, u51, u52], defers := [] } ∧ t ≤ l.length ∧ ∃ vo, OutAt wr p vo (L0 ++ numL l.length ++ (l.take t).flatMap oneF) ∧ Moved w v vo ∧ Grown w wr (OF p v) ∧ TabAt wr m) (fun a _ => l.length - (intOf (a.tmps.getD 28 undef)).toNat) ⟨0, undef, undef, undef, undef, undef, undef, undef, undef, undef, undef, undef, undef, undef, undef, undef, undef, undef, undef, undef, undef, undef, undef, undef, undef, undef, undef, rfl, by omega, v4, by rw [List.take_zero, List.flatMap_nil, List.append_nil]; exact H4O.out, H4M.out, H4G.out, H4T.out⟩ ?_
    rintro a wr ⟨t, u9, u11, u29, u30, u31, u32, u33, u34, u35, u36, u37, u38, u39, u40, u41, u42, u43, u44, u45, u46, u47, u48, u49, u50, u51, u52, rfl, ht, vo, hO, hM, hG, hT⟩
    by_cases htl : t < l.length
    · have htl' : (t : Int) < (l.length : Int) := by omega
      have hLr := HL.out.grown hG (fun b hb _ => Hsep.out b hb)
      obtain ⟨gL, ofL, hva, hr⟩ := hLr.at htl
      have hgx : l[t]? = some (l.getD t zeroOp) := by simp [List.getD_eq_getElem?_getD, htl]
      have hwx := wrongV_ok (Hok2.out.2 t _ hgx)
      have hmem : l.getD t zeroOp ∈ l := List.mem_of_getElem? hgx
      have Hx := Keep.mk (Hok.out _ hmem)
      have hnx := fm_next oneF l t htl zeroOp
      have hln := fm_len oneF l (t + 1)
      generalize l.getD t zeroOp = x at *
      have hkr := hasI_rng hwx.1
      have hwk : IntKind.u8.wrap x.kind = x.kind := by rw [IntKind.wrap_u8]; omega
      have H3 : Keep (3 ∈ hasI x.kind → 0 ≤ x.op ∧ x.op ≤ 1024) := ⟨fun h3 => mayAt_op (by rw [List.length_take]; have := Hok2.out.1; omega) (hwx.2.2.2.2 (hasI_three h3))⟩
      have Hi4 := Keep.mk (hasI_lt x.kind)
      have Hn3 := Keep.mk (hasI_len x.kind)
      obtain ⟨is, his⟩ : ∃ is, is = hasI x.kind := ⟨_, rfl⟩
      obtain ⟨L1, hL1⟩ : ∃ L1, L1 = L0 ++ numL l.length ++ (l.take t).flatMap oneF ++ [x.kind] := ⟨_, rfl⟩
      have hone : oneF x = x.kind :: is.flatMap fun i => putF i x := by rw [his]; rfl
      have hfull : L1 ++ (is.flatMap fun i => putF i x) = L0 ++ numL l.length ++ (l.take (t + 1)).flatMap oneF := by rw [hnx, hone, hL1]; simp
      have Hbd : Keep ((L1 ++ is.flatMap fun i => putF i x).length ≤ 200000000000000) := ⟨by
        rw [hfull, List.length_append, List.length_append]
        have := Hbb.out
        unfold formL at this
        rw [List.length_append] at this
        omega⟩
      have Hb1 : Keep ((L0 ++ numL l.length ++ (l.take t).flatMap oneF ++ [x.kind]).length ≤ 200000000000000) := ⟨by rw [← hL1]; have := Hbd.out; rw [List.length_append] at this; omega⟩
      have hwr1 : IntKind.i64.wrap ((t : Int) + 1) = (t : Int) + 1 := by rw [IntKind.wrap_i64]; have := Hlb.out; omega
      rw [← his] at H3 Hi4 Hn3
      have hkx1 := hkr.1
      have hkx2 := hkr.2
      have JO := Keep.mk hO
      have JM := Keep.mk hM
      have JG := Keep.mk hG
      have JT := Keep.mk hT
      have Jfull := Keep.mk hfull
      have Jis := Keep.mk his
      have JL1 := Keep.mk hL1
      clear hO hM hG hT hLr hnx hln hone hfull hwx hkr his hL1 hmem hgx
      refine wp_seq_k fun K9 hK9 => ?_
      refine wp_region_list (WL.out ?_)
      refine WL.val (by kernel_rfl) (.bool true) (by go_simp) ?_
      simp only [Act.put, List.setIfInBounds_toArray, List.set_cons_zero, List.set_cons_succ]
      refine WL.nil ?_
      refine hK9 _ _ ?_
      refine wp_seq_k fun K10 hK10 => ?_
      refine wp_cond_true rfl ?_
      refine wp_skip ?_
      refine hK10 _ _ ?_
      refine wp_seq_k fun K11 hK11 => ?_
      refine wp_block ?_
      refine wp_seq_k fun K12 hK12 => ?_
      refine wp_region_list (WL.out ?_)
      refine WL.val (by kernel_rfl) (.pointer (some ⟨gL, ofL + t * 37, none⟩)) (by go_simp) ?_
      simp only [Act.put, List.setIfInBounds_toArray, List.set_cons_zero, List.set_cons_succ]
      refine WL.mid (by kernel_rfl) 59 (.tmp 30) rfl gL (ofL + t * 37) rfl (opL x) _ hr Try.underlying59 rfl (Try.size59L x) ?_
      rw [rng_load]
      simp only [Act.put, List.setIfInBounds_toArray, List.set_cons_zero, List.set_cons_succ]
      refine WL.new (by kernel_rfl) 59 rfl _ Try.new59 ?_
      simp only [Act.put, List.setIfInBounds_toArray, List.set_cons_zero, List.set_cons_succ]
      refine WL.storeR (by kernel_rfl) 59 (.tmp 9) (.tmp 31) rfl wr.heap.size (opA x) rfl rfl 59 (opA zeroOp) (Blk.new wr 59 _) (Try.size59B x) (opA_sizes _ _) (opA_one x) ?_
      have HX := Keep.mk ((Blk.new wr 59 (opA zeroOp)).setRow (opA x))
      have HGr : Keep (Below wr.heap.size wr ((wr.alloc (.cells (opA zeroOp) 59)).setRow wr.heap.size (opA x))) := ⟨below_setRow (below_new wr _) (Nat.le_refl _) _⟩
      generalize (wr.alloc (.cells (opA zeroOp) 59)).setRow wr.heap.size (opA x) = wq at *
      obtain ⟨gx, hgx⟩ : ∃ gx, Keep (gx = wr.heap.size) := ⟨_, ⟨rfl⟩⟩
      rw [← hgx.out] at HX ⊢
      have k0 := HX.out.c 0 (opA_0 x)
      have HOq := Keep.mk (JO.out.below HGr.out)
      have HTq := Keep.mk (JT.out.below HGr.out)
      simp only [Act.put]
      refine WL.nil ?_
      refine hK12 _ _ ?_
      refine wp_seq_k fun K13 hK13 => ?_
      refine wp_region_list (WL.out ?_)
      refine WL.val (by kernel_rfl) (.pointer (some ⟨p, 0, none⟩)) (by go_simp) ?_
      simp only [Act.put, List.setIfInBounds_toArray, List.set_cons_zero, List.set_cons_succ]
      refine WL.val (by kernel_rfl) (.pointer (some ⟨gx, 0, none⟩)) (by go_simp) ?_
      simp only [Act.put, List.setIfInBounds_toArray, List.set_cons_zero, List.set_cons_succ]
      refine WL.val (by kernel_rfl) (.int .i64 x.kind) (by go_simp) ?_
      simp only [Act.put, List.setIfInBounds_toArray, List.set_cons_zero, List.set_cons_succ]
      refine WL.val (by kernel_rfl) (.int .u8 x.kind) (by go_simp) ?_
      simp only [Act.put, List.setIfInBounds_toArray, List.set_cons_zero, List.set_cons_succ]
      refine WL.callF (by kernel_rfl) 38 _ _ rfl Try.in38 #[ptr p, .int .u8 x.kind] (by simp [Act.eval]) ?_
      refine (obyte_any p vo _ x.kind wq HOq.out Hb1.out).mono ?_
      rintro e w6 hp
      obtain ⟨rfl, vo6, hO6, hM6, hG6⟩ := hp
      refine ⟨_, rfl, ?_⟩
      rw [← JL1.out] at hO6
      have HGs : Keep (Grown wr w6 (OF p vo)) := ⟨(Grown.below HGr.out).trans hG6⟩
      have H6O := Keep.mk hO6
      have H6M : Keep (Moved w v vo6) := ⟨JM.out.trans JG.out.size (hM6.mono HGr.out.size)⟩
      have H6G : Keep (Grown w w6 (OF p v)) := ⟨JG.out.next HGs.out fun k hk ho => by
        rcases ho with rfl | ho
        · exact .inl rfl
        · exact .inr (JM.out.old hk ho)⟩
      have H6T := Keep.mk (JO.out.tab JT.out HGs.out)
      have H6X := Keep.mk (HOq.out.keeps HX.out (by decide) (by decide) hG6)
      obtain ⟨vF, hvF, hlk⟩ := H6T.out.look2 x.kind
      rw [← Jis.out] at hvF
      obtain ⟨fa, fc, rfl⟩ := hvF.form
      have H6F := Keep.mk hvF
      have hlk1 := (hlk w6 (Below.refl _ _)).1
      have k6 := H6X.out.c 0 (opA_0 x)
      clear hO6 hM6 hG6 hvF hlk k0
      simp only [Act.put, List.setIfInBounds_toArray, List.set_cons_zero, List.set_cons_succ]
      refine WL.nil ?_
      refine hK13 _ _ ?_
      refine wp_seq_k fun K14 hK14 => ?_
      refine wp_region_list (WL.out ?_)
      refine WL.val (by kernel_rfl) (.map (some m)) (by go_simp) ?_
      simp only [Act.put, List.setIfInBounds_toArray, List.set_cons_zero, List.set_cons_succ]
      refine WL.val (by kernel_rfl) (.pointer (some ⟨gx, 0, none⟩)) (by go_simp) ?_
      simp only [Act.put, List.setIfInBounds_toArray, List.set_cons_zero, List.set_cons_succ]
      refine WL.val (by kernel_rfl) (.int .i64 x.kind) (by go_simp) ?_
      simp only [Act.put, List.setIfInBounds_toArray, List.set_cons_zero, List.set_cons_succ]
      refine WL.val (by kernel_rfl) (.slice fa is.length fc) (by go_simp) ?_
      simp only [Act.put, List.setIfInBounds_toArray, List.set_cons_zero, List.set_cons_succ]
      refine WL.val (by kernel_rfl) (.int .i64 (is.length : Int)) (by go_simp) ?_
      simp only [Act.put, List.setIfInBounds_toArray, List.set_cons_zero, List.set_cons_succ]
      refine WL.val (by kernel_rfl) (.int .i64 0) (by go_simp) ?_
      simp only [Act.put, List.setIfInBounds_toArray, List.set_cons_zero, List.set_cons_succ]
      refine WL.nil ?_
      refine hK14 _ _ ?_
      refine wp_block ?_
      refine wp_loop (fun a ws => ∃ (t2 : Nat) (u11 u43 u44 u45 u46 u47 u48 u49 u50 u51 : Value), a = { tmps := #[.pointer (some ⟨p, 0, none⟩), .slice va l.length vc, undef, undef, .int .i64 0, .int .i64 (chk l).1, .int .i64 ((chk l).2 : Int), .map (some m), undef, .pointer (some ⟨gx, 0, none⟩), undef, u11, .tuple #[.int .i64 (chk l).1, .int .i64 ((chk l).2 : Int)], .slice va l.length vc, .tuple #[.int .i64 (chk l).1, .int .i64 ((chk l).2 : Int)], .int .i64 (chk l).1, .int .i64 ((chk l).2 : Int), .int .i64 (chk l).1, .bool false, undef, .map (some m), .pointer (some ⟨p, 0, none⟩), .slice va l.length vc, .int .i64 (l.length : Int), .int .u64 (l.length : Int), .tuple #[], .slice va l.length vc, .int .i64 (l.length : Int), .int .i64 (t : Int), .bool true, .pointer (some ⟨gL, ofL + t * 37, none⟩), .agg (opA x), .pointer (some ⟨p, 0, none⟩), .pointer (some ⟨gx, 0, none⟩), .int .i64 x.kind, .int .u8 x.kind, .tuple #[], .map (some m), .pointer (some ⟨gx, 0, none⟩), .int .i64 x.kind, .slice fa is.length fc, .int .i64 (is.length : Int), .int .i64 (t2 : Int), u43, u44, u45, u46, u47, u48, u49, u50, u51, u52], defers := [] } ∧ t2 ≤ is.length ∧ ∃ vi, OutAt ws p vi (L1 ++ (is.take t2).flatMap fun i => putF i x) ∧ Moved w v vi ∧ Grown w ws (OF p v) ∧ TabAt ws m ∧ FieldsAt ws (.slice fa is.length fc) is ∧ Blk ws gx 59 (opA x)) (fun a _ => is.length - (intOf (a.tmps.getD 42 undef)).toNat) ⟨0, u11, u43, u44, u45, u46, u47, u48, u49, u50, u51, rfl, by omega, vo6, by rw [List.take_zero, List.flatMap_nil, List.append_nil]; exact H6O.out, H6M.out, H6G.out, H6T.out, H6F.out, H6X.out⟩ ?_
      rintro a ws ⟨t2, u11, u43, u44, u45, u46, u47, u48, u49, u50, u51, rfl, ht2, vi, hO2, hM2, hG2, hT2, hF2, hX2⟩
      by_cases htl2 : t2 < is.length
      · have htl2' : (t2 : Int) < (is.length : Int) := by omega
        obtain ⟨gF, hfa, hr2⟩ := hF2.at htl2
        have him : is.getD t2 0 ∈ is := by simp [List.getD_eq_getElem?_getD, htl2]
        have hi4 : is.getD t2 0 < 4 := Hi4.out _ him
        have hi3 : is.getD t2 0 = 3 → 0 ≤ x.op ∧ x.op ≤ 1024 := fun e => H3.out (e ▸ him)
        have hnx2 := fm_next (fun i => putF i x) is t2 htl2 0
        have hbd : (L1 ++ (is.take t2).flatMap fun i => putF i x).length + (putF (is.getD t2 0) x).length ≤ 200000000000000 := by
          have h1 := fm_len (fun i => putF i x) is (t2 + 1)
          rw [hnx2, List.length_append] at h1
          have h2 := Hbd.out
          rw [List.length_append] at h2 ⊢
          omega
        generalize is.getD t2 0 = i at *
        obtain ⟨L2, hL2⟩ : ∃ L2, L2 = L1 ++ (is.take t2).flatMap fun i => putF i x := ⟨_, rfl⟩
        rw [← hL2] at hO2 hbd
        have hwr2 : IntKind.i64.wrap ((t2 : Int) + 1) = (t2 : Int) + 1 := by rw [IntKind.wrap_i64]; have := Hn3.out; omega
        have KO2 := Keep.mk hO2
        have KM2 := Keep.mk hM2
        have KG2 := Keep.mk hG2
        have KT2 := Keep.mk hT2
        have KF2 := Keep.mk hF2
        have KX2 := Keep.mk hX2
        have Kbd := Keep.mk hbd
        have Ki3 := Keep.mk hi3
        have Knx2 := Keep.mk hnx2
        have KL2 := Keep.mk hL2
        clear hO2 hM2 hG2 hT2 hF2 hX2 hbd hi3 hnx2 hL2 him
        rcases (show i = 0 ∨ i = 1 ∨ i = 2 ∨ i = 3 by omega) with rfl | rfl | rfl | rfl
        · refine wp_seq_k fun K15 hK15 => ?_
          refine wp_region_list (WL.out ?_)
          refine WL.val (by kernel_rfl) (.bool true) (by go_simp) ?_
          simp only [Act.put, List.setIfInBounds_toArray, List.set_cons_zero, List.set_cons_succ]
          refine WL.nil ?_
          refine hK15 _ _ ?_
          refine wp_seq_k fun K16 hK16 => ?_
          refine wp_cond_true rfl ?_
          refine wp_skip ?_
          refine hK16 _ _ ?_
          refine wp_seq_k fun K17 hK17 => ?_
          refine wp_block ?_
          refine wp_seq_k fun K18 hK18 => ?_
          refine wp_region_list (WL.out ?_)
          refine WL.val (by kernel_rfl) (.pointer (some ⟨gF, 0 + t2 * 3, none⟩)) (by go_simp) ?_
          simp only [Act.put, List.setIfInBounds_toArray, List.set_cons_zero, List.set_cons_succ]
          refine WL.midA (by kernel_rfl) 95 (.tmp 44) rfl gF (0 + t2 * 3) rfl (fldA 0) _ hr2 Try.underlying95 rfl (Try.size95B 0) ?_
          simp only [Act.put, List.setIfInBounds_toArray, List.set_cons_zero, List.set_cons_succ]
          refine WL.new (by kernel_rfl) 95 rfl _ Try.new95 ?_
          simp only [Act.put, List.setIfInBounds_toArray, List.set_cons_zero, List.set_cons_succ]
          refine WL.storeR (by kernel_rfl) 95 (.tmp 11) (.tmp 45) rfl ws.heap.size (fldA 0) rfl rfl 95 noF (Blk.new ws 95 noF) (Try.size95B 0) (noF_sizes 0) (fldA_one 0) ?_
          have HN := Keep.mk ((Blk.new ws 95 noF).setRow (fldA 0))
          have HGq : Keep (Below ws.heap.size ws ((ws.alloc (.cells noF 95)).setRow ws.heap.size (fldA 0))) := ⟨below_setRow (below_new ws _) (Nat.le_refl _) _⟩
          generalize (ws.alloc (.cells noF 95)).setRow ws.heap.size (fldA 0) = wy at *
          have cf : wy.cell? ⟨ws.heap.size, 1, none⟩ = some (fnv 64) := HN.out.c 1 rfl
          unfold fnv at cf
          have HOy := Keep.mk (KO2.out.below HGq.out)
          have HXy := Keep.mk (KX2.out.below HGq.out KX2.out.lt)
          simp only [Act.put]
          refine WL.nil ?_
          refine hK18 _ _ ?_
          refine wp_region_list (WL.out ?_)
          refine WL.val (by kernel_rfl) (.pointer (some ⟨ws.heap.size, 1, none⟩)) (by go_simp) ?_
          simp only [Act.put, List.setIfInBounds_toArray, List.set_cons_zero, List.set_cons_succ]
          refine WL.val (by kernel_rfl) (.func (.func 64) #[] #[]) (by go_simp) ?_
          simp only [Act.put, List.setIfInBounds_toArray, List.set_cons_zero, List.set_cons_succ]
          refine WL.val (by kernel_rfl) (.pointer (some ⟨p, 0, none⟩)) (by go_simp) ?_
          simp only [Act.put, List.setIfInBounds_toArray, List.set_cons_zero, List.set_cons_succ]
          refine WL.row (by kernel_rfl) 59 (.tmp 9) rfl gx rfl 59 (opA x) _ HXy.out Try.underlying59 rfl (Try.size59B x) ?_
          simp only [Act.put, List.setIfInBounds_toArray, List.set_cons_zero, List.set_cons_succ]
          refine WL.callV (by kernel_rfl) 64 (.tmp 47) _ _ rfl rfl Try.in64 #[ptr p, .agg (opA x)] (by simp [Act.eval]) ?_
          refine (put0_any p vi L2 x wy HOy.out Hx.out Kbd.out).mono ?_
          rintro e w9 hp
          obtain ⟨rfl, v9, hO9, hM9, hG9⟩ := hp
          refine ⟨_, rfl, ?_⟩
          have HGs : Keep (Grown ws w9 (OF p vi)) := ⟨(Grown.below HGq.out).trans hG9⟩
          have HM9 := Keep.mk hM9
          have HO9 := Keep.mk hO9
          clear hG9 hM9 hO9 cf
          simp only [Act.put, List.setIfInBounds_toArray, List.set_cons_zero, List.set_cons_succ]
          refine WL.nil ?_
          refine hK17 _ _ ?_
          refine wp_region_list (WL.out ?_)
          refine WL.val (by kernel_rfl) (.int .i64 ((t2 : Int) + 1)) (by go_simp) ?_
          simp only [Act.put, List.setIfInBounds_toArray, List.set_cons_zero, List.set_cons_succ]
          refine WL.val (by kernel_rfl) (.int .i64 ((t2 : Int) + 1)) (by go_simp) ?_
          simp only [Act.put, List.setIfInBounds_toArray, List.set_cons_zero, List.set_cons_succ]
          refine WL.nil ?_
          refine ⟨⟨t2 + 1, .pointer (some ⟨ws.heap.size, 0, none⟩), .bool true, .pointer (some ⟨gF, 0 + t2 * 3, none⟩), .agg (fldA 0), .pointer (some ⟨ws.heap.size, 1, none⟩), .func (.func 64) #[] #[], .pointer (some ⟨p, 0, none⟩), .agg (opA x), .tuple #[], .int .i64 ((t2 : Int) + 1), rfl, by omega, v9, by rw [Knx2.out, ← List.append_assoc, ← KL2.out]; exact HO9.out, KM2.out.trans KG2.out.size (HM9.out.mono HGq.out.size), KG2.out.next HGs.out fun k hk ho => ?_, KO2.out.tab KT2.out HGs.out, KO2.out.fields KF2.out HGs.out, KO2.out.keeps KX2.out (by decide) (by decide) HGs.out⟩, ?_⟩
          · rcases ho with rfl | ho
            · exact .inl rfl
            · exact .inr (KM2.out.old hk ho)
          · simp only [intOf]; show is.length - ((t2 : Int) + 1).toNat < is.length - ((t2 : Int)).toNat; omega
        · refine wp_seq_k fun K19 hK19 => ?_
          refine wp_region_list (WL.out ?_)
          refine WL.val (by kernel_rfl) (.bool true) (by go_simp) ?_
          simp only [Act.put, List.setIfInBounds_toArray, List.set_cons_zero, List.set_cons_succ]
          refine WL.nil ?_
          refine hK19 _ _ ?_
          refine wp_seq_k fun K20 hK20 => ?_
          refine wp_cond_true rfl ?_
          refine wp_skip ?_
          refine hK20 _ _ ?_
          refine wp_seq_k fun K21 hK21 => ?_
          refine wp_block ?_
          refine wp_seq_k fun K22 hK22 => ?_
          refine wp_region_list (WL.out ?_)
          refine WL.val (by kernel_rfl) (.pointer (some ⟨gF, 0 + t2 * 3, none⟩)) (by go_simp) ?_
          simp only [Act.put, List.setIfInBounds_toArray, List.set_cons_zero, List.set_cons_succ]
          refine WL.midA (by kernel_rfl) 95 (.tmp 44) rfl gF (0 + t2 * 3) rfl (fldA 1) _ hr2 Try.underlying95 rfl (Try.size95B 1) ?_
          simp only [Act.put, List.setIfInBounds_toArray, List.set_cons_zero, List.set_cons_succ]
          refine WL.new (by kernel_rfl) 95 rfl _ Try.new95 ?_
          simp only [Act.put, List.setIfInBounds_toArray, List.set_cons_zero, List.set_cons_succ]
          refine WL.storeR (by kernel_rfl) 95 (.tmp 11) (.tmp 45) rfl ws.heap.size (fldA 1) rfl rfl 95 noF (Blk.new ws 95 noF) (Try.size95B 1) (noF_sizes 1) (fldA_one 1) ?_
          have HN := Keep.mk ((Blk.new ws 95 noF).setRow (fldA 1))
          have HGq : Keep (Below ws.heap.size ws ((ws.alloc (.cells noF 95)).setRow ws.heap.size (fldA 1))) := ⟨below_setRow (below_new ws _) (Nat.le_refl _) _⟩
          generalize (ws.alloc (.cells noF 95)).setRow ws.heap.size (fldA 1) = wy at *
          have cf : wy.cell? ⟨ws.heap.size, 1, none⟩ = some (fnv 69) := HN.out.c 1 rfl
          unfold fnv at cf
          have HOy := Keep.mk (KO2.out.below HGq.out)
          have HXy := Keep.mk (KX2.out.below HGq.out KX2.out.lt)
          simp only [Act.put]
          refine WL.nil ?_
          refine hK22 _ _ ?_
          refine wp_region_list (WL.out ?_)
          refine WL.val (by kernel_rfl) (.pointer (some ⟨ws.heap.size, 1, none⟩)) (by go_simp) ?_
          simp only [Act.put, List.setIfInBounds_toArray, List.set_cons_zero, List.set_cons_succ]
          refine WL.val (by kernel_rfl) (.func (.func 69) #[] #[]) (by go_simp) ?_
          simp only [Act.put, List.setIfInBounds_toArray, List.set_cons_zero, List.set_cons_succ]
          refine WL.val (by kernel_rfl) (.pointer (some ⟨p, 0, none⟩)) (by go_simp) ?_
          simp only [Act.put, List.setIfInBounds_toArray, List.set_cons_zero, List.set_cons_succ]
          refine WL.row (by kernel_rfl) 59 (.tmp 9) rfl gx rfl 59 (opA x) _ HXy.out Try.underlying59 rfl (Try.size59B x) ?_
          simp only [Act.put, List.setIfInBounds_toArray, List.set_cons_zero, List.set_cons_succ]
          refine WL.callV (by kernel_rfl) 69 (.tmp 47) _ _ rfl rfl Try.in69 #[ptr p, .agg (opA x)] (by simp [Act.eval]) ?_
          refine (put1_any p vi L2 x wy HOy.out Hx.out Kbd.out).mono ?_
          rintro e w9 hp
          obtain ⟨rfl, v9, hO9, hM9, hG9⟩ := hp
          refine ⟨_, rfl, ?_⟩
          have HGs : Keep (Grown ws w9 (OF p vi)) := ⟨(Grown.below HGq.out).trans hG9⟩
          have HM9 := Keep.mk hM9
          have HO9 := Keep.mk hO9
          clear hG9 hM9 hO9 cf
          simp only [Act.put, List.setIfInBounds_toArray, List.set_cons_zero, List.set_cons_succ]
          refine WL.nil ?_
          refine hK21 _ _ ?_
          refine wp_region_list (WL.out ?_)
          refine WL.val (by kernel_rfl) (.int .i64 ((t2 : Int) + 1)) (by go_simp) ?_
          simp only [Act.put, List.setIfInBounds_toArray, List.set_cons_zero, List.set_cons_succ]
          refine WL.val (by kernel_rfl) (.int .i64 ((t2 : Int) + 1)) (by go_simp) ?_
          simp only [Act.put, List.setIfInBounds_toArray, List.set_cons_zero, List.set_cons_succ]
          refine WL.nil ?_
          refine ⟨⟨t2 + 1, .pointer (some ⟨ws.heap.size, 0, none⟩), .bool true, .pointer (some ⟨gF, 0 + t2 * 3, none⟩), .agg (fldA 1), .pointer (some ⟨ws.heap.size, 1, none⟩), .func (.func 69) #[] #[], .pointer (some ⟨p, 0, none⟩), .agg (opA x), .tuple #[], .int .i64 ((t2 : Int) + 1), rfl, by omega, v9, by rw [Knx2.out, ← List.append_assoc, ← KL2.out]; exact HO9.out, KM2.out.trans KG2.out.size (HM9.out.mono HGq.out.size), KG2.out.next HGs.out fun k hk ho => ?_, KO2.out.tab KT2.out HGs.out, KO2.out.fields KF2.out HGs.out, KO2.out.keeps KX2.out (by decide) (by decide) HGs.out⟩, ?_⟩
          · rcases ho with rfl | ho
            · exact .inl rfl
            · exact .inr (KM2.out.old hk ho)
          · simp only [intOf]; show is.length - ((t2 : Int) + 1).toNat < is.length - ((t2 : Int)).toNat; omega
        · refine wp_seq_k fun K23 hK23 => ?_
          refine wp_region_list (WL.out ?_)
          refine WL.val (by kernel_rfl) (.bool true) (by go_simp) ?_
          simp only [Act.put, List.setIfInBounds_toArray, List.set_cons_zero, List.set_cons_succ]
          refine WL.nil ?_
          refine hK23 _ _ ?_
          refine wp_seq_k fun K24 hK24 => ?_
          refine wp_cond_true rfl ?_
          refine wp_skip ?_
          refine hK24 _ _ ?_
          refine wp_seq_k fun K25 hK25 => ?_
          refine wp_block ?_
          refine wp_seq_k fun K26 hK26 => ?_
          refine wp_region_list (WL.out ?_)
          refine WL.val (by kernel_rfl) (.pointer (some ⟨gF, 0 + t2 * 3, none⟩)) (by go_simp) ?_
          simp only [Act.put, List.setIfInBounds_toArray, List.set_cons_zero, List.set_cons_succ]
          refine WL.midA (by kernel_rfl) 95 (.tmp 44) rfl gF (0 + t2 * 3) rfl (fldA 2) _ hr2 Try.underlying95 rfl (Try.size95B 2) ?_
          simp only [Act.put, List.setIfInBounds_toArray, List.set_cons_zero, List.set_cons_succ]
          refine WL.new (by kernel_rfl) 95 rfl _ Try.new95 ?_
          simp only [Act.put, List.setIfInBounds_toArray, List.set_cons_zero, List.set_cons_succ]
          refine WL.storeR (by kernel_rfl) 95 (.tmp 11) (.tmp 45) rfl ws.heap.size (fldA 2) rfl rfl 95 noF (Blk.new ws 95 noF) (Try.size95B 2) (noF_sizes 2) (fldA_one 2) ?_
          have HN := Keep.mk ((Blk.new ws 95 noF).setRow (fldA 2))
          have HGq : Keep (Below ws.heap.size ws ((ws.alloc (.cells noF 95)).setRow ws.heap.size (fldA 2))) := ⟨below_setRow (below_new ws _) (Nat.le_refl _) _⟩
          generalize (ws.alloc (.cells noF 95)).setRow ws.heap.size (fldA 2) = wy at *
          have cf : wy.cell? ⟨ws.heap.size, 1, none⟩ = some (fnv 72) := HN.out.c 1 rfl
          unfold fnv at cf
          have HOy := Keep.mk (KO2.out.below HGq.out)
          have HXy := Keep.mk (KX2.out.below HGq.out KX2.out.lt)
          simp only [Act.put]
          refine WL.nil ?_
          refine hK26 _ _ ?_
          refine wp_region_list (WL.out ?_)
          refine WL.val (by kernel_rfl) (.pointer (some ⟨ws.heap.size, 1, none⟩)) (by go_simp) ?_
          simp only [Act.put, List.setIfInBounds_toArray, List.set_cons_zero, List.set_cons_succ]
          refine WL.val (by kernel_rfl) (.func (.func 72) #[] #[]) (by go_simp) ?_
          simp only [Act.put, List.setIfInBounds_toArray, List.set_cons_zero, List.set_cons_succ]
          refine WL.val (by kernel_rfl) (.pointer (some ⟨p, 0, none⟩)) (by go_simp) ?_
          simp only [Act.put, List.setIfInBounds_toArray, List.set_cons_zero, List.set_cons_succ]
          refine WL.row (by kernel_rfl) 59 (.tmp 9) rfl gx rfl 59 (opA x) _ HXy.out Try.underlying59 rfl (Try.size59B x) ?_
          simp only [Act.put, List.setIfInBounds_toArray, List.set_cons_zero, List.set_cons_succ]
          refine WL.callV (by kernel_rfl) 72 (.tmp 47) _ _ rfl rfl Try.in72 #[ptr p, .agg (opA x)] (by simp [Act.eval]) ?_
          refine (put2_any p vi L2 x wy HOy.out Hx.out Kbd.out).mono ?_
          rintro e w9 hp
          obtain ⟨rfl, v9, hO9, hM9, hG9⟩ := hp
          refine ⟨_, rfl, ?_⟩
          have HGs : Keep (Grown ws w9 (OF p vi)) := ⟨(Grown.below HGq.out).trans hG9⟩
          have HM9 := Keep.mk hM9
          have HO9 := Keep.mk hO9
          clear hG9 hM9 hO9 cf
          simp only [Act.put, List.setIfInBounds_toArray, List.set_cons_zero, List.set_cons_succ]
          refine WL.nil ?_
          refine hK25 _ _ ?_
          refine wp_region_list (WL.out ?_)
          refine WL.val (by kernel_rfl) (.int .i64 ((t2 : Int) + 1)) (by go_simp) ?_
          simp only [Act.put, List.setIfInBounds_toArray, List.set_cons_zero, List.set_cons_succ]
          refine WL.val (by kernel_rfl) (.int .i64 ((t2 : Int) + 1)) (by go_simp) ?_
          simp only [Act.put, List.setIfInBounds_toArray, List.set_cons_zero, List.set_cons_succ]
          refine WL.nil ?_
          refine ⟨⟨t2 + 1, .pointer (some ⟨ws.heap.size, 0, none⟩), .bool true, .pointer (some ⟨gF, 0 + t2 * 3, none⟩), .agg (fldA 2), .pointer (some ⟨ws.heap.size, 1, none⟩), .func (.func 72) #[] #[], .pointer (some ⟨p, 0, none⟩), .agg (opA x), .tuple #[], .int .i64 ((t2 : Int) + 1), rfl, by omega, v9, by rw [Knx2.out, ← List.append_assoc, ← KL2.out]; exact HO9.out, KM2.out.trans KG2.out.size (HM9.out.mono HGq.out.size), KG2.out.next HGs.out fun k hk ho => ?_, KO2.out.tab KT2.out HGs.out, KO2.out.fields KF2.out HGs.out, KO2.out.keeps KX2.out (by decide) (by decide) HGs.out⟩, ?_⟩
          · rcases ho with rfl | ho
            · exact .inl rfl
            · exact .inr (KM2.out.old hk ho)
          · simp only [intOf]; show is.length - ((t2 : Int) + 1).toNat < is.length - ((t2 : Int)).toNat; omega
        · refine wp_seq_k fun K27 hK27 => ?_
          refine wp_region_list (WL.out ?_)
          refine WL.val (by kernel_rfl) (.bool true) (by go_simp) ?_
          simp only [Act.put, List.setIfInBounds_toArray, List.set_cons_zero, List.set_cons_succ]
          refine WL.nil ?_
          refine hK27 _ _ ?_
          refine wp_seq_k fun K28 hK28 => ?_
          refine wp_cond_true rfl ?_
          refine wp_skip ?_
          refine hK28 _ _ ?_
          refine wp_seq_k fun K29 hK29 => ?_
          refine wp_block ?_
          refine wp_seq_k fun K30 hK30 => ?_
          refine wp_region_list (WL.out ?_)
          refine WL.val (by kernel_rfl) (.pointer (some ⟨gF, 0 + t2 * 3, none⟩)) (by go_simp) ?_
          simp only [Act.put, List.setIfInBounds_toArray, List.set_cons_zero, List.set_cons_succ]
          refine WL.midA (by kernel_rfl) 95 (.tmp 44) rfl gF (0 + t2 * 3) rfl (fldA 3) _ hr2 Try.underlying95 rfl (Try.size95B 3) ?_
          simp only [Act.put, List.setIfInBounds_toArray, List.set_cons_zero, List.set_cons_succ]
          refine WL.new (by kernel_rfl) 95 rfl _ Try.new95 ?_
          simp only [Act.put, List.setIfInBounds_toArray, List.set_cons_zero, List.set_cons_succ]
          refine WL.storeR (by kernel_rfl) 95 (.tmp 11) (.tmp 45) rfl ws.heap.size (fldA 3) rfl rfl 95 noF (Blk.new ws 95 noF) (Try.size95B 3) (noF_sizes 3) (fldA_one 3) ?_
          have HN := Keep.mk ((Blk.new ws 95 noF).setRow (fldA 3))
          have HGq : Keep (Below ws.heap.size ws ((ws.alloc (.cells noF 95)).setRow ws.heap.size (fldA 3))) := ⟨below_setRow (below_new ws _) (Nat.le_refl _) _⟩
          generalize (ws.alloc (.cells noF 95)).setRow ws.heap.size (fldA 3) = wy at *
          have cf : wy.cell? ⟨ws.heap.size, 1, none⟩ = some (fnv 77) := HN.out.c 1 rfl
          unfold fnv at cf
          have HOy := Keep.mk (KO2.out.below HGq.out)
          have HXy := Keep.mk (KX2.out.below HGq.out KX2.out.lt)
          simp only [Act.put]
          refine WL.nil ?_
          refine hK30 _ _ ?_
          refine wp_region_list (WL.out ?_)
          refine WL.val (by kernel_rfl) (.pointer (some ⟨ws.heap.size, 1, none⟩)) (by go_simp) ?_
          simp only [Act.put, List.setIfInBounds_toArray, List.set_cons_zero, List.set_cons_succ]
          refine WL.val (by kernel_rfl) (.func (.func 77) #[] #[]) (by go_simp) ?_
          simp only [Act.put, List.setIfInBounds_toArray, List.set_cons_zero, List.set_cons_succ]
          refine WL.val (by kernel_rfl) (.pointer (some ⟨p, 0, none⟩)) (by go_simp) ?_
          simp only [Act.put, List.setIfInBounds_toArray, List.set_cons_zero, List.set_cons_succ]
          refine WL.row (by kernel_rfl) 59 (.tmp 9) rfl gx rfl 59 (opA x) _ HXy.out Try.underlying59 rfl (Try.size59B x) ?_
          simp only [Act.put, List.setIfInBounds_toArray, List.set_cons_zero, List.set_cons_succ]
          refine WL.callV (by kernel_rfl) 77 (.tmp 47) _ _ rfl rfl Try.in77 #[ptr p, .agg (opA x)] (by simp [Act.eval]) ?_
          refine (put3_any p vi L2 x wy HOy.out Hx.out (Ki3.out rfl).1 (Ki3.out rfl).2 Kbd.out).mono ?_
          rintro e w9 hp
          obtain ⟨rfl, v9, hO9, hM9, hG9⟩ := hp
          refine ⟨_, rfl, ?_⟩
          have HGs : Keep (Grown ws w9 (OF p vi)) := ⟨(Grown.below HGq.out).trans hG9⟩
          have HM9 := Keep.mk hM9
          have HO9 := Keep.mk hO9
          clear hG9 hM9 hO9 cf
          simp only [Act.put, List.setIfInBounds_toArray, List.set_cons_zero, List.set_cons_succ]
          refine WL.nil ?_
          refine hK29 _ _ ?_
          refine wp_region_list (WL.out ?_)
          refine WL.val (by kernel_rfl) (.int .i64 ((t2 : Int) + 1)) (by go_simp) ?_
          simp only [Act.put, List.setIfInBounds_toArray, List.set_cons_zero, List.set_cons_succ]
          refine WL.val (by kernel_rfl) (.int .i64 ((t2 : Int) + 1)) (by go_simp) ?_
          simp only [Act.put, List.setIfInBounds_toArray, List.set_cons_zero, List.set_cons_succ]
          refine WL.nil ?_
          refine ⟨⟨t2 + 1, .pointer (some ⟨ws.heap.size, 0, none⟩), .bool true, .pointer (some ⟨gF, 0 + t2 * 3, none⟩), .agg (fldA 3), .pointer (some ⟨ws.heap.size, 1, none⟩), .func (.func 77) #[] #[], .pointer (some ⟨p, 0, none⟩), .agg (opA x), .tuple #[], .int .i64 ((t2 : Int) + 1), rfl, by omega, v9, by rw [Knx2.out, ← List.append_assoc, ← KL2.out]; exact HO9.out, KM2.out.trans KG2.out.size (HM9.out.mono HGq.out.size), KG2.out.next HGs.out fun k hk ho => ?_, KO2.out.tab KT2.out HGs.out, KO2.out.fields KF2.out HGs.out, KO2.out.keeps KX2.out (by decide) (by decide) HGs.out⟩, ?_⟩
          · rcases ho with rfl | ho
            · exact .inl rfl
            · exact .inr (KM2.out.old hk ho)
          · simp only [intOf]; show is.length - ((t2 : Int) + 1).toNat < is.length - ((t2 : Int)).toNat; omega
      · have ht2e : t2 = is.length := by omega
        have htl2' : ¬ (t2 : Int) < (is.length : Int) := by omega
        rw [ht2e, List.take_length] at hO2
        clear ht2e
        have KO2 := Keep.mk hO2
        have KM2 := Keep.mk hM2
        have KG2 := Keep.mk hG2
        have KT2 := Keep.mk hT2
        clear hO2 hM2 hG2 hT2 hF2 hX2
        refine wp_seq_k fun K31 hK31 => ?_
        refine wp_region_list (WL.out ?_)
        refine WL.val (by kernel_rfl) (.bool false) (by go_simp) ?_
        simp only [Act.put, List.setIfInBounds_toArray, List.set_cons_zero, List.set_cons_succ]
        refine WL.nil ?_
        refine hK31 _ _ ?_
        refine wp_seq_k fun K32 hK32 => ?_
        refine wp_cond_false rfl ?_
        refine wp_exit ?_
        refine hK11 _ _ ?_
        refine wp_region_list (WL.out ?_)
        refine WL.val (by kernel_rfl) (.int .i64 ((t : Int) + 1)) (by go_simp) ?_
        simp only [Act.put, List.setIfInBounds_toArray, List.set_cons_zero, List.set_cons_succ]
        refine WL.val (by kernel_rfl) (.int .i64 ((t : Int) + 1)) (by go_simp) ?_
        simp only [Act.put, List.setIfInBounds_toArray, List.set_cons_zero, List.set_cons_succ]
        refine WL.nil ?_
        rw [Jfull.out] at KO2
        refine ⟨⟨t + 1, .pointer (some ⟨gx, 0, none⟩), u11, .bool true, .pointer (some ⟨gL, ofL + t * 37, none⟩), .agg (opA x), .pointer (some ⟨p, 0, none⟩), .pointer (some ⟨gx, 0, none⟩), .int .i64 x.kind, .int .u8 x.kind, .tuple #[], .map (some m), .pointer (some ⟨gx, 0, none⟩), .int .i64 x.kind, .slice fa is.length fc, .int .i64 (is.length : Int), .int .i64 (t2 : Int), .bool false, u44, u45, u46, u47, u48, u49, u50, u51, .int .i64 ((t : Int) + 1), rfl, by omega, vi, KO2.out, KM2.out, KG2.out, KT2.out⟩, ?_⟩
        simp only [intOf]; show l.length - ((t : Int) + 1).toNat < l.length - ((t : Int)).toNat; omega
    · obtain rfl : t = l.length := by omega
      have htl' : ¬ (l.length : Int) < (l.length : Int) := by omega
      rw [List.take_length, List.append_assoc] at hO
      refine wp_seq_k fun K33 hK33 => ?_
      refine wp_region_list (WL.out ?_)
      refine WL.val (by kernel_rfl) (.bool false) (by go_simp) ?_
      simp only [Act.put, List.setIfInBounds_toArray, List.set_cons_zero, List.set_cons_succ]
      refine WL.nil ?_
      refine hK33 _ _ ?_
      refine wp_seq_k fun K34 hK34 => ?_
      refine wp_cond_false rfl ?_
      refine wp_exit ?_
      refine hK7 _ _ ?_
      refine wp_seq_k fun K35 hK35 => ?_
      refine wp_region_list (WL.out ?_)
      refine WL.val (by kernel_rfl) (.int .i64 0) (by go_simp) ?_
      simp only [Act.put, List.setIfInBounds_toArray, List.set_cons_zero, List.set_cons_succ]
      refine WL.nil ?_
      refine hK35 _ _ ?_
      refine wp_ret ?_
      go_ret
      exact ⟨by rw [HC0.out]; rfl, vo, by rw [if_pos HC0.out]; exact hO, hM, hG⟩
  · clear h hl hok hb hsep hbb
    refine wp_seq_k fun K1 hK1 => ?_
    refine wp_region_list (WL.out ?_)
    refine WL.val (by kernel_rfl) (.int .i64 0) (by go_simp) ?_
    simp only [Act.put, List.setIfInBounds_toArray, List.set_cons_zero, List.set_cons_succ]
    refine WL.nil ?_
    refine hK1 _ _ ?_
    refine wp_seq_k fun K2 hK2 => ?_
    refine wp_seq_k fun K3 hK3 => ?_
    refine wp_region_list (WL.out ?_)
    refine WL.val (by kernel_rfl) (.slice va l.length vc) (by go_simp) ?_
    simp only [Act.put, List.setIfInBounds_toArray, List.set_cons_zero, List.set_cons_succ]
    refine WL.callF (by kernel_rfl) 26 _ _ rfl Try.in26 #[.slice va l.length vc] (by simp [Act.eval]) ?_
    refine (check_any _ l w HL.out Hok.out Hlb.out).mono ?_
    rintro e w1 ⟨rfl, h1⟩
    refine ⟨_, rfl, ?_⟩
    have HB1 := Keep.mk h1
    clear h1
    simp only [Act.put, List.setIfInBounds_toArray, List.set_cons_zero, List.set_cons_succ]
    refine WL.val (by kernel_rfl) (.tuple #[.int .i64 (chk l).1, .int .i64 ((chk l).2 : Int)]) (by go_simp) ?_
    simp only [Act.put, List.setIfInBounds_toArray, List.set_cons_zero, List.set_cons_succ]
    refine WL.val (by kernel_rfl) (.int .i64 (chk l).1) (by go_simp) ?_
    simp only [Act.put, List.setIfInBounds_toArray, List.set_cons_zero, List.set_cons_succ]
    refine WL.val (by kernel_rfl) (.int .i64 ((chk l).2 : Int)) (by go_simp) ?_
    simp only [Act.put, List.setIfInBounds_toArray, List.set_cons_zero, List.set_cons_succ]
    refine WL.val (by kernel_rfl) (.int .i64 (chk l).1) (by go_simp) ?_
    simp only [Act.put, List.setIfInBounds_toArray, List.set_cons_zero, List.set_cons_succ]
    refine WL.val (by kernel_rfl) (.int .i64 ((chk l).2 : Int)) (by go_simp) ?_
    simp only [Act.put, List.setIfInBounds_toArray, List.set_cons_zero, List.set_cons_succ]
    refine WL.nil ?_
    refine hK3 _ _ ?_
    refine wp_seq_k fun K4 hK4 => ?_
    refine wp_region_list (WL.out ?_)
    refine WL.val (by kernel_rfl) (.int .i64 (chk l).1) (by go_simp) ?_
    simp only [Act.put, List.setIfInBounds_toArray, List.set_cons_zero, List.set_cons_succ]
    refine WL.val (by kernel_rfl) (.bool true) (by go_simp) ?_
    simp only [Act.put, List.setIfInBounds_toArray, List.set_cons_zero, List.set_cons_succ]
    refine WL.nil ?_
    refine hK4 _ _ ?_
    refine wp_cond_true rfl ?_
    refine wp_seq_k fun K5 hK5 => ?_
    refine wp_region_list (WL.out ?_)
    refine WL.val (by kernel_rfl) (.int .i64 (chk l).1) (by go_simp) ?_
    simp only [Act.put, List.setIfInBounds_toArray, List.set_cons_zero, List.set_cons_succ]
    refine WL.val (by kernel_rfl) (.int .i64 (chk l).1) (by go_simp) ?_
    simp only [Act.put, List.setIfInBounds_toArray, List.set_cons_zero, List.set_cons_succ]
    refine WL.nil ?_
    refine hK5 _ _ ?_
    refine wp_ret ?_
    go_ret
    exact ⟨rfl, v, by rw [if_neg hC]; exact HO.out.below HB1.out, Moved.refl _ _, Grown.below HB1.out⟩

def flatO (l : List OpV) : List Value := l.flatMap opL
theorem flatO_len (l : List OpV) : (flatO l).length = l.length * 37 := by
  induction l with
  | nil => rfl
  | cons x l ih =>
    simp only [flatO, List.flatMap_cons, List.length_append, opL_len, List.length_cons] at ih ⊢
    rw [ih]; omega
theorem flatO_drop (l : List OpV) : ∀ t, (flatO l).drop (t * 37) = flatO (l.drop t) := by
  induction l with
  | nil => intro t; simp [flatO]
  | cons x l ih =>
    intro t
    cases t with
    | zero => simp
    | succ t =>
      have := ih t
      simp only [flatO, List.flatMap_cons, List.drop_succ_cons] at this ⊢
      rw [← this, show (t + 1) * 37 = 37 + t * 37 by omega, ← List.drop_drop, List.drop_left' (opL_len x)]
theorem flatO_get (l : List OpV) (t : Nat) (x : OpV) (ht : l[t]? = some x) (j : Nat) (v : Value) (hv : (opL x)[j]? = some v) : (flatO l)[t * 37 + j]? = some v := by
  rw [← List.getElem?_drop, flatO_drop]
  obtain ⟨h1, h2⟩ := List.getElem?_eq_some_iff.1 ht
  rw [List.drop_eq_getElem_cons h1, h2]
  simp only [flatO, List.flatMap_cons]
  rw [List.getElem?_append_left (List.getElem?_eq_some_iff.1 hv).1]
  exact hv
theorem ops_block {w : World} {g : Nat} {T : TypeId} {l : List OpV} {cs : Array Value} {cap : Nat} (h : Blk w g T cs) (hc : cs.toList.take (l.length * 37) = flatO l) (hcap : l.length ≤ cap) : OpsAt w (.slice (some ⟨g, 0, none⟩) l.length cap) l := by
  refine .inr ⟨g, 0, cap, rfl, hcap, fun i x hx j v hv => ?_⟩
  rw [Nat.zero_add, h.cell]
  have := flatO_get l i x hx j v hv
  rw [← hc, List.getElem?_take] at this
  split at this
  · simpa using this
  · cases this
theorem ops_new (w : World) (l : List OpV) : OpsAt (w.alloc (.cells (flatO l).toArray 59)) (.slice (some ⟨w.heap.size, 0, none⟩) l.length l.length) l :=
  ops_block (Blk.new w 59 _) (by rw [List.take_of_length_le (by rw [flatO_len]; omega)]) (Nat.le_refl _)
def xA : OpV := ⟨1, { data := #[107] }, { data := #[118] }, 0, z32, 0⟩
def xB : OpV := ⟨10, { data := #[] }, { data := #[] }, 0, z32, 0⟩
def xC : OpV := ⟨6, { data := #[107] }, { data := #[] }, -1, z32, 0⟩
theorem z32_len : z32.length = 32 := by decide
theorem z32_byts : Byts z32 := by unfold z32; intro c hc; rw [List.eq_of_mem_replicate hc]; decide
theorem xA_ok : OpOk xA := ⟨z32_len, z32_byts, by decide, by decide, by decide, by decide, by decide, by decide, by decide, by decide⟩
theorem xB_ok : OpOk xB := ⟨z32_len, z32_byts, by decide, by decide, by decide, by decide, by decide, by decide, by decide, by decide⟩
theorem xC_ok : OpOk xC := ⟨z32_len, z32_byts, by decide, by decide, by decide, by decide, by decide, by decide, by decide, by decide⟩
theorem bA : Try.prog.built 59 [(0, .int .i64 1), (1, .string { data := #[107] }), (2, .string { data := #[118] })] = some (opA xA) := by kernel_rfl
theorem bB : Try.prog.built 59 [(0, .int .i64 10)] = some (opA xB) := by kernel_rfl
theorem bC : Try.prog.built 59 [(0, .int .i64 6), (1, .string { data := #[107] }), (3, .int .i64 (-1))] = some (opA xC) := by kernel_rfl
theorem sAB (w : World) : (Instr.buildSlice 36 2 #[(0, .agg (opA xA)), (1, .agg (opA xB))]).run Try.prog w = .ok (.slice (some ⟨w.heap.size, 0, none⟩) 2 2) (w.alloc (.cells (flatO [xA, xB]).toArray 59)) := by kernel_rfl
theorem sC (w : World) : (Instr.buildSlice 36 1 #[(0, .agg (opA xC))]).run Try.prog w = .ok (.slice (some ⟨w.heap.size, 0, none⟩) 1 1) (w.alloc (.cells (flatO [xC]).toArray 59)) := by kernel_rfl
theorem cAB : chk [xA, xB] = (40, 1) := by kernel_rfl
theorem cC : chk [xC] = (0, 0) := by kernel_rfl
theorem fC : formL [xC] = [1, 6, 1, 107, 1] := by kernel_rfl
theorem stC : strOfNums [1, 6, 1, 107, 1] = { data := #[1, 6, 1, 107, 1] } := by kernel_rfl
set_option maxRecDepth 8000 in
set_option maxHeartbeats 1000000 in
theorem fixed_any (w : World) : Calls Try.prog 17 #[] w fun e w' => e = .returned (.bool true) ∧ Below w.heap.size w w' := by
  go_enter Try.func17, Try.ntmps17
  refine wp_seq_k fun K1 hK1 => ?_
  refine wp_region_list (WL.out ?_)
  refine WL.val (by kernel_rfl) (.bool false) (by go_simp) ?_
  simp only [Act.put, List.setIfInBounds_toArray, List.set_cons_zero, List.set_cons_succ]
  refine WL.nil ?_
  refine hK1 _ _ ?_
  refine wp_seq_k fun K2 hK2 => ?_
  refine wp_region_list (WL.out ?_)
  refine WL.bld (by kernel_rfl) 59 _ rfl _ (by simp [Act.eval]) (opA xA) bA ?_
  simp only [Act.put, List.setIfInBounds_toArray, List.set_cons_zero, List.set_cons_succ]
  refine WL.bld (by kernel_rfl) 59 _ rfl _ (by simp [Act.eval]) (opA xB) bB ?_
  simp only [Act.put, List.setIfInBounds_toArray, List.set_cons_zero, List.set_cons_succ]
  refine WL.bs (by kernel_rfl) 36 2 _ rfl #[(0, .agg (opA xA)), (1, .agg (opA xB))] (by simp [Act.eval]) _ _ (sAB w) ?_
  simp only [Act.put, List.setIfInBounds_toArray, List.set_cons_zero, List.set_cons_succ]
  refine WL.callF (by kernel_rfl) 26 _ _ rfl Try.in26 #[.slice (some ⟨w.heap.size, 0, none⟩) 2 2] (by simp [Act.eval]) ?_
  refine (check_any _ [xA, xB] _ (ops_new w [xA, xB]) (by intro x hx; simp at hx; rcases hx with rfl | rfl; exact xA_ok; exact xB_ok) (by decide)).mono ?_
  rintro e w1 ⟨rfl, h1⟩
  rw [cAB]
  refine ⟨_, rfl, ?_⟩
  have HB1 : Keep (Below w.heap.size w w1) := ⟨(below_new w _).trans (h1.mono (by simp))⟩
  clear h1
  simp only [Act.put, List.setIfInBounds_toArray, List.set_cons_zero, List.set_cons_succ]
  refine WL.val (by kernel_rfl) (.tuple #[.int .i64 40, .int .i64 1]) (by go_simp) ?_
  simp only [Act.put, List.setIfInBounds_toArray, List.set_cons_zero, List.set_cons_succ]
  refine WL.val (by kernel_rfl) (.int .i64 40) (by go_simp) ?_
  simp only [Act.put, List.setIfInBounds_toArray, List.set_cons_zero, List.set_cons_succ]
  refine WL.val (by kernel_rfl) (.int .i64 1) (by go_simp) ?_
  simp only [Act.put, List.setIfInBounds_toArray, List.set_cons_zero, List.set_cons_succ]
  refine WL.val (by kernel_rfl) (.int .i64 40) (by go_simp) ?_
  simp only [Act.put, List.setIfInBounds_toArray, List.set_cons_zero, List.set_cons_succ]
  refine WL.val (by kernel_rfl) (.int .i64 1) (by go_simp) ?_
  simp only [Act.put, List.setIfInBounds_toArray, List.set_cons_zero, List.set_cons_succ]
  refine WL.nil ?_
  refine hK2 _ _ ?_
  refine wp_seq_k fun K3 hK3 => ?_
  refine wp_region_list (WL.out ?_)
  refine WL.callF (by kernel_rfl) 18 _ _ rfl Try.in18 #[] (by simp) ?_
  refine (newOut_any w1).mono ?_
  rintro e w2 ⟨rfl, hw2⟩
  refine ⟨_, rfl, ?_⟩
  have HO2 : Keep (OutAt w2 w1.heap.size (.slice none 0 0) []) := ⟨by rw [hw2]; exact outAt_new w1⟩
  have HB2 : Keep (Below w.heap.size w w2) := ⟨by rw [hw2]; exact HB1.out.trans ((below_new w1 _).mono HB1.out.size)⟩
  have HLt : Keep (w1.heap.size < w2.heap.size) := ⟨HO2.out.blk.lt⟩
  have HLe := Keep.mk HB1.out.size
  clear hw2 HB1
  obtain ⟨p, hp⟩ : ∃ p, Keep (p = w1.heap.size) := ⟨_, ⟨rfl⟩⟩
  rw [← hp.out] at HO2 HLt HLe ⊢
  simp only [Act.put, List.setIfInBounds_toArray, List.set_cons_zero, List.set_cons_succ]
  refine WL.val (by kernel_rfl) (.pointer (some ⟨p, 0, none⟩)) (by go_simp) ?_
  simp only [Act.put, List.setIfInBounds_toArray, List.set_cons_zero, List.set_cons_succ]
  refine WL.nil ?_
  refine hK3 _ _ ?_
  refine wp_seq_k fun K4 hK4 => ?_
  refine wp_seq_k fun K5 hK5 => ?_
  refine wp_region_list (WL.out ?_)
  refine WL.val (by kernel_rfl) (.pointer (some ⟨p, 0, none⟩)) (by go_simp) ?_
  simp only [Act.put, List.setIfInBounds_toArray, List.set_cons_zero, List.set_cons_succ]
  refine WL.val (by kernel_rfl) (.bool false) (by go_simp) ?_
  simp only [Act.put, List.setIfInBounds_toArray, List.set_cons_zero, List.set_cons_succ]
  refine WL.nil ?_
  refine hK5 _ _ ?_
  refine wp_cond_false rfl ?_
  refine wp_skip ?_
  refine hK4 _ _ ?_
  refine wp_seq_k fun K6 hK6 => ?_
  refine wp_region_list (WL.out ?_)
  refine WL.val (by kernel_rfl) (.pointer (some ⟨p, 0, none⟩)) (by go_simp) ?_
  simp only [Act.put, List.setIfInBounds_toArray, List.set_cons_zero, List.set_cons_succ]
  refine WL.bld (by kernel_rfl) 59 _ rfl _ (by simp [Act.eval]) (opA xC) bC ?_
  simp only [Act.put, List.setIfInBounds_toArray, List.set_cons_zero, List.set_cons_succ]
  refine WL.bs (by kernel_rfl) 36 1 _ rfl #[(0, .agg (opA xC))] (by simp [Act.eval]) _ _ (sC w2) ?_
  simp only [Act.put, List.setIfInBounds_toArray, List.set_cons_zero, List.set_cons_succ]
  refine WL.callF (by kernel_rfl) 20 _ _ rfl Try.in20 #[ptr p, .slice (some ⟨w2.heap.size, 0, none⟩) 1 1] (by simp [Act.eval]) ?_
  refine (put_any p (.slice none 0 0) [] _ [xC] _ (HO2.out.box _) (ops_new w2 [xC]) (by intro x hx; simp at hx; subst hx; exact xC_ok) (by decide) ?_ ?_).mono ?_
  · intro k hk ho
    simp [Value.ownBlock] at hk
    rcases ho with ho | ho
    · have := HLt.out; omega
    · simp [Value.ownBlock] at ho
  · intro _; rw [fC]; decide
  rintro e w3 ⟨rfl, v3, h3, h4, h5⟩
  rw [cC] at h3 ⊢
  refine ⟨_, rfl, ?_⟩
  rw [if_pos rfl, fC, List.nil_append] at h3
  have HO3 := Keep.mk h3
  have HB3 : Keep (Below w.heap.size w w3) := ⟨⟨h5.os.trans HB2.out.os, h5.tape.trans HB2.out.tape, h5.output.trans HB2.out.output, Nat.le_trans HB2.out.size (Nat.le_trans (by simp) h5.size), fun j hj => by
    rw [h5.block j (by have := HB2.out.size; simp; omega) (by
      rintro (ho | ho)
      · have := HLe.out; omega
      · simp [Value.ownBlock] at ho), Below.heap_alloc w2 _ j (Nat.lt_of_lt_of_le hj HB2.out.size)]
    exact HB2.out.block j hj⟩⟩
  clear h3 h4 h5
  simp only [Act.put, List.setIfInBounds_toArray, List.set_cons_zero, List.set_cons_succ]
  refine WL.val (by kernel_rfl) (.int .i64 0) (by go_simp) ?_
  simp only [Act.put, List.setIfInBounds_toArray, List.set_cons_zero, List.set_cons_succ]
  refine WL.nil ?_
  refine hK6 _ _ ?_
  refine wp_seq_k fun K7 hK7 => ?_
  refine wp_region_list (WL.out ?_)
  refine WL.val (by kernel_rfl) (.int .i64 40) (by go_simp) ?_
  simp only [Act.put, List.setIfInBounds_toArray, List.set_cons_zero, List.set_cons_succ]
  refine WL.val (by kernel_rfl) (.bool true) (by go_simp) ?_
  simp only [Act.put, List.setIfInBounds_toArray, List.set_cons_zero, List.set_cons_succ]
  refine WL.val (by kernel_rfl) (.bool true) (by go_simp) ?_
  simp only [Act.put, List.setIfInBounds_toArray, List.set_cons_zero, List.set_cons_succ]
  refine WL.val (by kernel_rfl) (.int .i64 1) (by go_simp) ?_
  simp only [Act.put, List.setIfInBounds_toArray, List.set_cons_zero, List.set_cons_succ]
  refine WL.val (by kernel_rfl) (.bool true) (by go_simp) ?_
  simp only [Act.put, List.setIfInBounds_toArray, List.set_cons_zero, List.set_cons_succ]
  refine WL.val (by kernel_rfl) (.bool true) (by go_simp) ?_
  simp only [Act.put, List.setIfInBounds_toArray, List.set_cons_zero, List.set_cons_succ]
  refine WL.val (by kernel_rfl) (.bool true) (by go_simp) ?_
  simp only [Act.put, List.setIfInBounds_toArray, List.set_cons_zero, List.set_cons_succ]
  refine WL.val (by kernel_rfl) (.int .i64 0) (by go_simp) ?_
  simp only [Act.put, List.setIfInBounds_toArray, List.set_cons_zero, List.set_cons_succ]
  refine WL.val (by kernel_rfl) (.bool true) (by go_simp) ?_
  simp only [Act.put, List.setIfInBounds_toArray, List.set_cons_zero, List.set_cons_succ]
  refine WL.val (by kernel_rfl) (.bool true) (by go_simp) ?_
  simp only [Act.put, List.setIfInBounds_toArray, List.set_cons_zero, List.set_cons_succ]
  refine WL.val (by kernel_rfl) (.bool true) (by go_simp) ?_
  simp only [Act.put, List.setIfInBounds_toArray, List.set_cons_zero, List.set_cons_succ]
  refine WL.val (by kernel_rfl) (.pointer (some ⟨p, 0, none⟩)) (by go_simp) ?_
  simp only [Act.put, List.setIfInBounds_toArray, List.set_cons_zero, List.set_cons_succ]
  refine WL.callF (by kernel_rfl) 22 _ _ rfl Try.in22 #[ptr p] (by simp [Act.eval]) ?_
  refine (odone_any p v3 _ w3 HO3.out (by decide)).mono ?_
  rintro e w4 ⟨rfl, hw4⟩
  refine ⟨_, rfl, ?_⟩
  have hcv : (convert 22 9 (.slice (some ⟨w3.heap.size, 0, none⟩) 5 5)).run Try.prog w4 = .ok (.string { data := #[1, 6, 1, 107, 1] }) w4 := by
    have h := conv_row _ _ w4 (by rw [hw4]; exact (own_done w3 [1, 6, 1, 107, 1] (by decide)).row)
    rw [stC] at h
    exact h
  have HB4 : Keep (Below w.heap.size w w4) := ⟨by rw [hw4]; exact HB3.out.trans ((below_new w3 _).mono HB3.out.size)⟩
  clear hw4
  simp only [Act.put, List.setIfInBounds_toArray, List.set_cons_zero, List.set_cons_succ]
  refine WL.val (by kernel_rfl) (.string { data := #[1, 6, 1, 107, 1] }) (by go_simp) ?_
  simp only [Act.put, List.setIfInBounds_toArray, List.set_cons_zero, List.set_cons_succ]
  refine WL.val (by kernel_rfl) (.bool true) (by go_simp) ?_
  simp only [Act.put, List.setIfInBounds_toArray, List.set_cons_zero, List.set_cons_succ]
  refine WL.val (by kernel_rfl) (.bool true) (by go_simp) ?_
  simp only [Act.put, List.setIfInBounds_toArray, List.set_cons_zero, List.set_cons_succ]
  refine WL.val (by kernel_rfl) (.bool true) (by go_simp) ?_
  simp only [Act.put, List.setIfInBounds_toArray, List.set_cons_zero, List.set_cons_succ]
  refine WL.nil ?_
  refine hK7 _ _ ?_
  refine wp_ret ?_
  go_ret
  exact ⟨rfl, HB4.out⟩
end Go.Proofs.Ytkjjlfpghhefcab
