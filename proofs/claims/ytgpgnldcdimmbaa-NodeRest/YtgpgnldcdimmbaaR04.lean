import Derived.Test.YtgpgnldcdimmbaaR03
namespace Go.Proofs.Ytgpgnldcdimmbaa
open Go.RowKit

section
variable {P : Program} {ops : Array Oper} {rest : List Oper} {o : Oper} {a : Act} {w : World} {Q : Exit → Act → World → Prop}
theorem WL.row (hw : Region.wanted o (yielded ops a.tmps) = true) (ty : TypeId) (x : Operand) (ho : o.op = .load ty x)
    (b : Nat) (hx : a.eval x = .pointer (some ⟨b, 0, none⟩)) (t : TypeId) (cs : Array Value) (d : TypeDesc) (hc : Blk w b t cs)
    (hu : P.underlying ty = some d) (hd : d.isRow = true) (hi : (P.info? ty).map (·.size) = some cs.size)
    (h : WL P ops Q rest (a.put o.dst (.agg cs)) w) : WL P ops Q (o :: rest) a w :=
  WL.mid hw ty x ho b 0 hx cs.toList d (blk_range hc) hu hd (by rw [Array.length_toList]; exact hi) (by rw [Array.toArray_toList]; exact h)
theorem WL.midA (hw : Region.wanted o (yielded ops a.tmps) = true) (ty : TypeId) (x : Operand) (ho : o.op = .load ty x)
    (b of : Nat) (hx : a.eval x = .pointer (some ⟨b, of, none⟩)) (cs : Array Value) (d : TypeDesc) (hc : w.rangeAt b of cs.toList)
    (hu : P.underlying ty = some d) (hd : d.isRow = true) (hi : (P.info? ty).map (·.size) = some cs.size)
    (h : WL P ops Q rest (a.put o.dst (.agg cs)) w) : WL P ops Q (o :: rest) a w :=
  WL.mid hw ty x ho b of hx cs.toList d hc hu hd (by rw [Array.length_toList]; exact hi) (by rw [Array.toArray_toList]; exact h)
theorem WL.new (hw : Region.wanted o (yielded ops a.tmps) = true) (t : TypeId) (ho : o.op = .alloc t) (cells : Array Value)
    (hf : ∀ w : World, (Instr.alloc t true (.tuple #[])).run P w = .ok (.pointer (some ⟨w.heap.size, 0, none⟩)) (w.alloc (.cells cells t)))
    (h : WL P ops Q rest (a.put o.dst (.pointer (some ⟨w.heap.size, 0, none⟩))) (w.alloc (.cells cells t))) : WL P ops Q (o :: rest) a w :=
  ⟨wpList_wanted hw fun K hK => by
    unfold Oper.wp execOp
    simp only [ho, Sem.run_bind, hf w, Result.andThen_ok]
    exact hK _ _ h.out⟩
theorem WL.box (hw : Region.wanted o (yielded ops a.tmps) = true) (t : TypeId) (x : Operand) (ho : o.op = .box t x) (cs : Array Value) (hx : a.eval x = .agg cs)
    (h : WL P ops Q rest (a.put o.dst (.pointer (some ⟨w.heap.size, 0, none⟩))) (w.alloc (.cells cs t))) : WL P ops Q (o :: rest) a w :=
  ⟨wpList_wanted hw fun K hK => by
    unfold Oper.wp execOp
    simp only [ho, hx, Sem.run_bind, run_box_agg, Result.andThen_ok]
    exact hK _ _ h.out⟩
theorem WL.storeR (hw : Region.wanted o (yielded ops a.tmps) = true) (ty : TypeId) (x y : Operand) (ho : o.op = .store ty x y)
    (g : Nat) (cells : Array Value) (hx : a.eval x = .pointer (some ⟨g, 0, none⟩)) (hy : a.eval y = .agg cells)
    (t : TypeId) (old : Array Value) (hg : Blk w g t old) (hi : (P.info? ty).map (·.size) = some cells.size) (hold : old.size = cells.size) (h1 : cells.all (·.oneCell') = true)
    (h : WL P ops Q rest (a.put o.dst undef) (w.setRow g cells)) : WL P ops Q (o :: rest) a w :=
  ⟨wpList_wanted hw fun _ hK => wp_store_row ty x y ho g cells hx hy t old hg hi hold h1 (hK _ _ h.out)⟩
theorem WL.cell (hw : Region.wanted o (yielded ops a.tmps) = true) (w' : World) (hrun : (execOp a.eval o).run P w = .ok .skip w')
    (h : WL P ops Q rest (a.put o.dst undef) w') : WL P ops Q (o :: rest) a w :=
  ⟨wpList_wanted hw fun _ hK => by unfold Oper.wp; rw [hrun, Oper.upon_skip]; exact hK _ _ h.out⟩
theorem WL.valW (hw : Region.wanted o (yielded ops a.tmps) = true) (v : Value) (w' : World) (hrun : (execOp a.eval o).run P w = .ok (.value v) w')
    (h : WL P ops Q rest (a.put o.dst v) w') : WL P ops Q (o :: rest) a w :=
  ⟨wpList_wanted hw fun _ hK => by unfold Oper.wp; rw [hrun, Oper.upon_value]; exact hK _ _ h.out⟩
theorem WL.bld (hw : Region.wanted o (yielded ops a.tmps) = true) (t : TypeId) (parts : Array (Nat × Operand)) (ho : o.op = .build t parts)
    (vs : List (Nat × Value)) (hv : (parts.map fun (i, x) => (i, a.eval x)).toList = vs) (cells : Array Value) (hf : P.built t vs = some cells)
    (h : WL P ops Q rest (a.put o.dst (.agg cells)) w) : WL P ops Q (o :: rest) a w :=
  ⟨wpList_wanted hw fun _ hK => wp_bldG t parts ho cells (by rw [hv]; exact hf) (hK _ _ h.out)⟩
theorem WL.bs (hw : Region.wanted o (yielded ops a.tmps) = true) (t : TypeId) (n : Nat) (parts : Array (Nat × Operand)) (ho : o.op = .buildSlice t n parts)
    (vs : Array (Nat × Value)) (hv : (parts.map fun (i, x) => (i, a.eval x)) = vs) (v : Value) (w' : World) (hrun : (Instr.buildSlice t n vs).run P w = .ok v w')
    (h : WL P ops Q rest (a.put o.dst v) w') : WL P ops Q (o :: rest) a w :=
  ⟨wpList_wanted hw fun K hK => by
    unfold Oper.wp execOp
    simp only [ho, hv, Sem.run_bind, hrun, Result.andThen_ok]
    exact hK _ _ h.out⟩
theorem WL.part (hw : Region.wanted o (yielded ops a.tmps) = true) (ty : TypeId) (x y : Operand) (ho : o.op = .store ty x y)
    (g off : Nat) (cells : Array Value) (hx : a.eval x = .pointer (some ⟨g, off, none⟩)) (hy : a.eval y = .agg cells)
    (t : TypeId) (cur : Array Value) (hg : Blk w g t cur) (hi : (P.info? ty).map (·.size) = some cells.size) (hfit : off + cells.size ≤ cur.size) (h1 : cells.all (·.oneCell') = true)
    (new : Array Value) (hn : (cur.toList.take off ++ cells.toList ++ cur.toList.drop (off + cells.size)).toArray = new)
    (h : WL P ops Q rest (a.put o.dst undef) (w.setRow g new)) : WL P ops Q (o :: rest) a w := by
  subst hn
  refine ⟨wpList_wanted hw fun K hK => ?_⟩
  have hst := run_storeCells_at P g off t cells.toList 0 cur w hg (by simpa using hfit) (fun v hv => (Array.all_eq_true_iff_forall_mem.1 h1) v (by simpa using hv))
  have hrun : (storeVar ty ⟨g, off, none⟩ (.agg cells)).run P w = .ok () (w.setRow g (cur.toList.take off ++ cells.toList ++ cur.toList.drop (off + cells.size)).toArray) := by
    cases hq : P.info? ty with
    | none => simp [hq] at hi
    | some i =>
      have hs : cells.size = i.size := by simp [hq] at hi; omega
      simp only [Nat.add_zero, Array.length_toList] at hst
      simp [storeVar, sizeOf, typeInfo, hq, Value.cells, hs, hst]
  unfold Oper.wp execOp
  simp only [ho, hx, hy, Instr.storeAt, Instr.sureAddr, Sem.run_bind, Sem.run_pure, Result.andThen_ok, hrun]
  exact hK _ _ h.out
theorem run_callF (a : Act) (o : Oper) (f : FuncId) (args : Array Operand) (ts : Array TypeId) (ho : o.op = .call { callee := .value (.func f), args := args, argTypes := ts })
    (hf : ∀ (w : World) (vs : Array Value), (callFunc f vs).run P w = .ok (.enter f vs) w) (w : World) :
    (execOp a.eval o).run P w = .ok (.enter f (args.map a.eval)) w := by
  unfold execOp
  simp only [ho]
  simp [resolve, Act.eval, go_sem]
  exact hf w _
theorem run_callV (a : Act) (o : Oper) (f : FuncId) (x : Operand) (args : Array Operand) (ts : Array TypeId) (ho : o.op = .call { callee := .value x, args := args, argTypes := ts }) (hx : a.eval x = .func (.func f) #[] #[])
    (hf : ∀ (w : World) (vs : Array Value), (callFunc f vs).run P w = .ok (.enter f vs) w) (w : World) :
    (execOp a.eval o).run P w = .ok (.enter f (args.map a.eval)) w := by
  unfold execOp
  simp only [ho, resolve, hx]
  generalize Array.map a.eval args = vs
  simp [go_sem]
  exact hf w _
theorem WL.callF (hw : Region.wanted o (yielded ops a.tmps) = true) (f : FuncId) (args : Array Operand) (ts : Array TypeId) (ho : o.op = .call { callee := .value (.func f), args := args, argTypes := ts })
    (hf : ∀ (w : World) (vs : Array Value), (callFunc f vs).run P w = .ok (.enter f vs) w) (vs : Array Value) (hvs : args.map a.eval = vs)
    (hc : Calls P f vs w fun e w' => ∃ v, e = .returned v ∧ WL P ops Q rest (a.put o.dst v) w') : WL P ops Q (o :: rest) a w :=
  ⟨wpList_wanted hw fun K hK => by
    unfold Oper.wp
    rw [run_callF a o f args ts ho hf w, Oper.upon_enter, hvs]
    refine hc.mono ?_
    rintro e w' ⟨v, rfl, hr⟩
    exact hK _ _ hr.out⟩
theorem WL.callV (hw : Region.wanted o (yielded ops a.tmps) = true) (f : FuncId) (x : Operand) (args : Array Operand) (ts : Array TypeId) (ho : o.op = .call { callee := .value x, args := args, argTypes := ts }) (hx : a.eval x = .func (.func f) #[] #[])
    (hf : ∀ (w : World) (vs : Array Value), (callFunc f vs).run P w = .ok (.enter f vs) w) (vs : Array Value) (hvs : args.map a.eval = vs)
    (hc : Calls P f vs w fun e w' => ∃ v, e = .returned v ∧ WL P ops Q rest (a.put o.dst v) w') : WL P ops Q (o :: rest) a w :=
  ⟨wpList_wanted hw fun K hK => by
    unfold Oper.wp
    rw [run_callV a o f x args ts ho hx hf w, Oper.upon_enter, hvs]
    refine hc.mono ?_
    rintro e w' ⟨v, rfl, hr⟩
    exact hK _ _ hr.out⟩
end
theorem Blk.c {w : World} {b : Nat} {T : TypeId} {cs : Array Value} (h : Blk w b T cs) (j : Nat) {v : Value} (hv : cs[j]? = some v) : w.cell? ⟨b, j, none⟩ = some v := by rw [h.cell]; exact hv
theorem Try.in30 (w : World) (vs : Array Value) : (callFunc 30 vs).run Try.prog w = .ok (.enter 30 vs) w := by kernel_rfl
theorem Try.in32 (w : World) (vs : Array Value) : (callFunc 32 vs).run Try.prog w = .ok (.enter 32 vs) w := by kernel_rfl
theorem Try.in82 (w : World) (vs : Array Value) : (callFunc 82 vs).run Try.prog w = .ok (.enter 82 vs) w := by kernel_rfl
theorem Try.in41 (w : World) (vs : Array Value) : (callFunc 41 vs).run Try.prog w = .ok (.enter 41 vs) w := by kernel_rfl
theorem Try.in37 (w : World) (vs : Array Value) : (callFunc 37 vs).run Try.prog w = .ok (.enter 37 vs) w := by kernel_rfl
theorem Try.in42 (w : World) (vs : Array Value) : (callFunc 42 vs).run Try.prog w = .ok (.enter 42 vs) w := by kernel_rfl
theorem Try.in71 (w : World) (vs : Array Value) : (callFunc 71 vs).run Try.prog w = .ok (.enter 71 vs) w := by kernel_rfl
theorem Try.in46 (w : World) (vs : Array Value) : (callFunc 46 vs).run Try.prog w = .ok (.enter 46 vs) w := by kernel_rfl
theorem Try.in49 (w : World) (vs : Array Value) : (callFunc 49 vs).run Try.prog w = .ok (.enter 49 vs) w := by kernel_rfl
theorem Try.in27 (w : World) (vs : Array Value) : (callFunc 27 vs).run Try.prog w = .ok (.enter 27 vs) w := by kernel_rfl
theorem Try.in43 (w : World) (vs : Array Value) : (callFunc 43 vs).run Try.prog w = .ok (.enter 43 vs) w := by kernel_rfl
theorem Try.in36 (w : World) (vs : Array Value) : (callFunc 36 vs).run Try.prog w = .ok (.enter 36 vs) w := by kernel_rfl
theorem Try.in65 (w : World) (vs : Array Value) : (callFunc 65 vs).run Try.prog w = .ok (.enter 65 vs) w := by kernel_rfl
theorem Try.in58 (w : World) (vs : Array Value) : (callFunc 58 vs).run Try.prog w = .ok (.enter 58 vs) w := by kernel_rfl
theorem Try.in93 (w : World) (vs : Array Value) : (callFunc 93 vs).run Try.prog w = .ok (.enter 93 vs) w := by kernel_rfl
theorem Try.in26 (w : World) (vs : Array Value) : (callFunc 26 vs).run Try.prog w = .ok (.enter 26 vs) w := by kernel_rfl
theorem Try.in53 (w : World) (vs : Array Value) : (callFunc 53 vs).run Try.prog w = .ok (.enter 53 vs) w := by kernel_rfl
theorem Try.in54 (w : World) (vs : Array Value) : (callFunc 54 vs).run Try.prog w = .ok (.enter 54 vs) w := by kernel_rfl
theorem Try.in55 (w : World) (vs : Array Value) : (callFunc 55 vs).run Try.prog w = .ok (.enter 55 vs) w := by kernel_rfl
theorem Try.in44 (w : World) (vs : Array Value) : (callFunc 44 vs).run Try.prog w = .ok (.enter 44 vs) w := by kernel_rfl
theorem Try.in47 (w : World) (vs : Array Value) : (callFunc 47 vs).run Try.prog w = .ok (.enter 47 vs) w := by kernel_rfl
theorem Try.in72 (w : World) (vs : Array Value) : (callFunc 72 vs).run Try.prog w = .ok (.enter 72 vs) w := by kernel_rfl
theorem Try.in73 (w : World) (vs : Array Value) : (callFunc 73 vs).run Try.prog w = .ok (.enter 73 vs) w := by kernel_rfl
theorem Try.in74 (w : World) (vs : Array Value) : (callFunc 74 vs).run Try.prog w = .ok (.enter 74 vs) w := by kernel_rfl
theorem Try.in75 (w : World) (vs : Array Value) : (callFunc 75 vs).run Try.prog w = .ok (.enter 75 vs) w := by kernel_rfl
theorem Try.in48 (w : World) (vs : Array Value) : (callFunc 48 vs).run Try.prog w = .ok (.enter 48 vs) w := by kernel_rfl
theorem Try.in61 (w : World) (vs : Array Value) : (callFunc 61 vs).run Try.prog w = .ok (.enter 61 vs) w := by kernel_rfl
theorem Try.in92 (w : World) (vs : Array Value) : (callFunc 92 vs).run Try.prog w = .ok (.enter 92 vs) w := by kernel_rfl
theorem Try.in81 (w : World) (vs : Array Value) : (callFunc 81 vs).run Try.prog w = .ok (.enter 81 vs) w := by kernel_rfl
theorem Try.in83 (w : World) (vs : Array Value) : (callFunc 83 vs).run Try.prog w = .ok (.enter 83 vs) w := by kernel_rfl
theorem Try.in84 (w : World) (vs : Array Value) : (callFunc 84 vs).run Try.prog w = .ok (.enter 84 vs) w := by kernel_rfl
theorem Try.in85 (w : World) (vs : Array Value) : (callFunc 85 vs).run Try.prog w = .ok (.enter 85 vs) w := by kernel_rfl
theorem Try.in87 (w : World) (vs : Array Value) : (callFunc 87 vs).run Try.prog w = .ok (.enter 87 vs) w := by kernel_rfl
theorem Try.in99 (w : World) (vs : Array Value) : (callFunc 99 vs).run Try.prog w = .ok (.enter 99 vs) w := by kernel_rfl
theorem Try.in100 (w : World) (vs : Array Value) : (callFunc 100 vs).run Try.prog w = .ok (.enter 100 vs) w := by kernel_rfl
theorem Try.in101 (w : World) (vs : Array Value) : (callFunc 101 vs).run Try.prog w = .ok (.enter 101 vs) w := by kernel_rfl
theorem Try.in102 (w : World) (vs : Array Value) : (callFunc 102 vs).run Try.prog w = .ok (.enter 102 vs) w := by kernel_rfl
theorem Try.in103 (w : World) (vs : Array Value) : (callFunc 103 vs).run Try.prog w = .ok (.enter 103 vs) w := by kernel_rfl
theorem Try.in104 (w : World) (vs : Array Value) : (callFunc 104 vs).run Try.prog w = .ok (.enter 104 vs) w := by kernel_rfl
theorem Try.in105 (w : World) (vs : Array Value) : (callFunc 105 vs).run Try.prog w = .ok (.enter 105 vs) w := by kernel_rfl
theorem Try.in106 (w : World) (vs : Array Value) : (callFunc 106 vs).run Try.prog w = .ok (.enter 106 vs) w := by kernel_rfl
theorem Try.in107 (w : World) (vs : Array Value) : (callFunc 107 vs).run Try.prog w = .ok (.enter 107 vs) w := by kernel_rfl
theorem Try.in108 (w : World) (vs : Array Value) : (callFunc 108 vs).run Try.prog w = .ok (.enter 108 vs) w := by kernel_rfl
theorem Try.in109 (w : World) (vs : Array Value) : (callFunc 109 vs).run Try.prog w = .ok (.enter 109 vs) w := by kernel_rfl
theorem Try.in110 (w : World) (vs : Array Value) : (callFunc 110 vs).run Try.prog w = .ok (.enter 110 vs) w := by kernel_rfl
theorem Try.in111 (w : World) (vs : Array Value) : (callFunc 111 vs).run Try.prog w = .ok (.enter 111 vs) w := by kernel_rfl
theorem Try.in112 (w : World) (vs : Array Value) : (callFunc 112 vs).run Try.prog w = .ok (.enter 112 vs) w := by kernel_rfl
theorem Try.in113 (w : World) (vs : Array Value) : (callFunc 113 vs).run Try.prog w = .ok (.enter 113 vs) w := by kernel_rfl
theorem Try.in114 (w : World) (vs : Array Value) : (callFunc 114 vs).run Try.prog w = .ok (.enter 114 vs) w := by kernel_rfl
theorem Try.in45 (w : World) (vs : Array Value) : (callFunc 45 vs).run Try.prog w = .ok (.enter 45 vs) w := by kernel_rfl
theorem Try.in91 (w : World) (vs : Array Value) : (callFunc 91 vs).run Try.prog w = .ok (.enter 91 vs) w := by kernel_rfl
end Go.Proofs.Ytgpgnldcdimmbaa
namespace Go.Proofs.Ytgpgnldcdimmbaa
open Go.RowKit
set_option linter.unusedSimpArgs false

def wipe (i : Nat) (x : OpV) : OpV := if i = 0 then { x with key := { data := #[] } } else if i = 1 then { x with text := { data := #[] } } else if i = 2 then { x with n := 0 } else { x with node := z32, op := 0 }
def wipes (is : List Nat) (x : OpV) : OpV := is.foldl (fun x i => wipe i x) x
theorem wipes_next (is : List Nat) (t : Nat) (h : t < is.length) (x : OpV) : wipes (is.take (t + 1)) x = wipe (is.getD t 0) (wipes (is.take t) x) := by
  unfold wipes
  rw [List.take_succ_eq_append_getElem h, List.foldl_append]
  simp [List.getD_eq_getElem?_getD, h]
def WipePost (i g : Nat) (x : OpV) (w : World) (e : Ending) (w' : World) : Prop := e = .returned (.tuple #[]) ∧ Blk w' g 79 (opA (wipe i x)) ∧ Grown w w' fun k => k = g
theorem wipe0_any (g : Nat) (x : OpV) (w : World) (h : Blk w g 79 (opA x)) : Calls Try.prog 99 #[ptr g] w (WipePost 0 g x w) := by
  have c1 := h.c 1 (opA_1 x)
  have f1 := h.frozen 1
  have HB := Keep.mk (h.set 1 (.string { data := #[] }))
  rw [set_1] at HB
  clear h
  go_enter Try.func99, Try.ntmps99
  refine wp_region_list (WL.out ?_)
  refine WL.val (by kernel_rfl) (.pointer (some ⟨g, 0, none⟩)) (by go_simp) ?_
  simp only [Act.put, List.setIfInBounds_toArray, List.set_cons_zero, List.set_cons_succ]
  refine WL.val (by kernel_rfl) (.pointer (some ⟨g, 0, none⟩)) (by go_simp) ?_
  simp only [Act.put, List.setIfInBounds_toArray, List.set_cons_zero, List.set_cons_succ]
  refine WL.val (by kernel_rfl) (.pointer (some ⟨g, 1, none⟩)) (by go_simp) ?_
  simp only [Act.put, List.setIfInBounds_toArray, List.set_cons_zero, List.set_cons_succ]
  refine WL.cell (by kernel_rfl) (w.setCell ⟨g, 1, none⟩ (.string { data := #[] })) (by go_simp) ?_
  simp only [Act.put]
  refine WL.nil ?_
  go_end0
  exact ⟨rfl, HB.out, Grown.setCell w g 1 _ fun _ => rfl⟩
theorem wipe1_any (g : Nat) (x : OpV) (w : World) (h : Blk w g 79 (opA x)) : Calls Try.prog 104 #[ptr g] w (WipePost 1 g x w) := by
  have c1 := h.c 2 (opA_2 x)
  have f1 := h.frozen 2
  have HB := Keep.mk (h.set 2 (.string { data := #[] }))
  rw [set_2] at HB
  clear h
  go_enter Try.func104, Try.ntmps104
  refine wp_region_list (WL.out ?_)
  refine WL.val (by kernel_rfl) (.pointer (some ⟨g, 0, none⟩)) (by go_simp) ?_
  simp only [Act.put, List.setIfInBounds_toArray, List.set_cons_zero, List.set_cons_succ]
  refine WL.val (by kernel_rfl) (.pointer (some ⟨g, 0, none⟩)) (by go_simp) ?_
  simp only [Act.put, List.setIfInBounds_toArray, List.set_cons_zero, List.set_cons_succ]
  refine WL.val (by kernel_rfl) (.pointer (some ⟨g, 2, none⟩)) (by go_simp) ?_
  simp only [Act.put, List.setIfInBounds_toArray, List.set_cons_zero, List.set_cons_succ]
  refine WL.cell (by kernel_rfl) (w.setCell ⟨g, 2, none⟩ (.string { data := #[] })) (by go_simp) ?_
  simp only [Act.put]
  refine WL.nil ?_
  go_end0
  exact ⟨rfl, HB.out, Grown.setCell w g 2 _ fun _ => rfl⟩
theorem wipe2_any (g : Nat) (x : OpV) (w : World) (h : Blk w g 79 (opA x)) : Calls Try.prog 107 #[ptr g] w (WipePost 2 g x w) := by
  have c1 := h.c 3 (opA_3 x)
  have f1 := h.frozen 3
  have HB := Keep.mk (h.set 3 (.int .i64 0))
  rw [set_3] at HB
  clear h
  go_enter Try.func107, Try.ntmps107
  refine wp_region_list (WL.out ?_)
  refine WL.val (by kernel_rfl) (.pointer (some ⟨g, 0, none⟩)) (by go_simp) ?_
  simp only [Act.put, List.setIfInBounds_toArray, List.set_cons_zero, List.set_cons_succ]
  refine WL.val (by kernel_rfl) (.pointer (some ⟨g, 0, none⟩)) (by go_simp) ?_
  simp only [Act.put, List.setIfInBounds_toArray, List.set_cons_zero, List.set_cons_succ]
  refine WL.val (by kernel_rfl) (.pointer (some ⟨g, 3, none⟩)) (by go_simp) ?_
  simp only [Act.put, List.setIfInBounds_toArray, List.set_cons_zero, List.set_cons_succ]
  refine WL.cell (by kernel_rfl) (w.setCell ⟨g, 3, none⟩ (.int .i64 0)) (by go_simp) ?_
  simp only [Act.put]
  refine WL.nil ?_
  go_end0
  exact ⟨rfl, HB.out, Grown.setCell w g 3 _ fun _ => rfl⟩
theorem wipe3_any (g : Nat) (x : OpV) (w : World) (h : Blk w g 79 (opA x)) : Calls Try.prog 112 #[ptr g] w (WipePost 3 g x w) := by
  have HB := Keep.mk h
  clear h
  go_enter Try.func112, Try.ntmps112
  refine wp_region_list (WL.out ?_)
  refine WL.val (by kernel_rfl) (.pointer (some ⟨g, 0, none⟩)) (by go_simp) ?_
  simp only [Act.put, List.setIfInBounds_toArray, List.set_cons_zero, List.set_cons_succ]
  refine WL.bld (by kernel_rfl) 77 _ rfl [] (by simp) (idA z32 0) Try.built77 ?_
  simp only [Act.put, List.setIfInBounds_toArray, List.set_cons_zero, List.set_cons_succ]
  refine WL.val (by kernel_rfl) (.pointer (some ⟨g, 0, none⟩)) (by go_simp) ?_
  simp only [Act.put, List.setIfInBounds_toArray, List.set_cons_zero, List.set_cons_succ]
  refine WL.val (by kernel_rfl) (.pointer (some ⟨g, 4, none⟩)) (by go_simp) ?_
  simp only [Act.put, List.setIfInBounds_toArray, List.set_cons_zero, List.set_cons_succ]
  refine WL.part (by kernel_rfl) 77 (.tmp 5) (.tmp 3) rfl g 4 (idA z32 0) rfl rfl 79 (opA x) HB.out (Try.size77B _ _) (by rw [idA_size, opA_size]; decide) (idA_one _ _) _ (put_at x z32 0) ?_
  simp only [Act.put]
  refine WL.nil ?_
  go_end0
  exact ⟨rfl, HB.out.setRow _, Grown.setRow w g _ fun _ => rfl⟩
theorem FieldsAt.form {w : World} {v : Value} {is : List Nat} (h : FieldsAt w v is) : ∃ a c, v = .slice a is.length c := by
  rcases h with ⟨rfl, rfl⟩ | ⟨g, rfl, _⟩
  · exact ⟨_, _, rfl⟩
  · exact ⟨_, _, rfl⟩
theorem FieldsAt.below {w w' : World} {v : Value} {is : List Nat} (h : FieldsAt w v is) (hb : Below w.heap.size w w') : FieldsAt w' v is :=
  h.grown (Grown.below (S := fun _ => False) hb) fun _ _ h => h
theorem flatF_drop (is : List Nat) : ∀ t, (flatF is).toList.drop (t * 3) = (is.drop t).flatMap fun i => (fldA i).toList := by
  induction is with
  | nil => intro t; simp [flatF]
  | cons i is ih =>
    intro t
    cases t with
    | zero => simp [flatF]
    | succ t =>
      have := ih t
      simp only [flatF, List.flatMap_cons, List.drop_succ_cons] at this ⊢
      rw [← this, show (t + 1) * 3 = 3 + t * 3 by omega, ← List.drop_drop, List.drop_left' (by rw [Array.length_toList, fldA_size])]
theorem flat_range {w : World} {g : Nat} {is : List Nat} (h : Blk w g 129 (flatF is)) {t : Nat} (ht : t < is.length) : w.rangeAt g (t * 3) (fldA (is.getD t 0)).toList := fun j v hv => by
  rw [h.cell]
  have h3 : j < 3 := by have := (List.getElem?_eq_some_iff.1 hv).1; rw [Array.length_toList, fldA_size] at this; exact this
  have e : (flatF is)[t * 3 + j]? = ((flatF is).toList.drop (t * 3))[j]? := by rw [List.getElem?_drop, Array.getElem?_toList]
  rw [e, flatF_drop, List.drop_eq_getElem_cons ht, List.flatMap_cons, List.getElem?_append_left (by rw [Array.length_toList, fldA_size]; exact h3)]
  rw [show is[t] = is.getD t 0 by simp [List.getD_eq_getElem?_getD, ht]]
  exact hv
theorem FieldsAt.at {w : World} {a : Option Addr} {n c : Nat} {is : List Nat} (h : FieldsAt w (.slice a n c) is) {t : Nat} (ht : t < is.length) : ∃ g, a = some ⟨g, 0, none⟩ ∧ w.rangeAt g (0 + t * 3) (fldA (is.getD t 0)).toList := by
  rcases h with ⟨_, rfl⟩ | ⟨g, e, h2⟩
  · simp at ht
  · injection e with e1 e2 e3
    exact ⟨g, e1, by rw [Nat.zero_add]; exact flat_range h2 ht⟩
theorem fldA_0 (i : Nat) (hi : i < 4) : ∃ n, (fldA i)[0]? = some (fnv n) := by
  match i, hi with
  | 0, _ => exact ⟨_, rfl⟩
  | 1, _ => exact ⟨_, rfl⟩
  | 2, _ => exact ⟨_, rfl⟩
  | 3, _ => exact ⟨_, rfl⟩
set_option maxRecDepth 8000 in
set_option maxHeartbeats 1000000 in
theorem other_any (x : OpV) (v : Value) (is : List Nat) (w : World) (hF : FieldsAt w v is) (hi : ∀ i ∈ is, i < 4) (hn : is.length ≤ 3) :
    Calls Try.prog 81 #[.agg (opA x), v] w fun e w' => e = .returned (.bool (!sm (wipes is { x with kind := 0 }) zeroOp)) ∧ Below w.heap.size w w' := by
  obtain ⟨va, vc, rfl⟩ := hF.form
  have HF := Keep.mk hF
  have Hi := Keep.mk hi
  have Hn := Keep.mk hn
  have HB := Keep.mk (Blk.new w 79 (opA x))
  have HW := Keep.mk (below_new w (.cells (opA x) 79))
  obtain ⟨w1, hw1⟩ : ∃ w1, Keep (w.alloc (.cells (opA x) 79) = w1) := ⟨_, ⟨rfl⟩⟩
  rw [hw1.out] at HB HW
  have Hw1 : Keep (w.heap.size < w1.heap.size) := ⟨HB.out.lt⟩
  obtain ⟨x0, hx0⟩ : ∃ x0, x0 = { x with kind := 0 } := ⟨_, rfl⟩
  rw [← hx0]
  clear hF hi hn
  go_enter Try.func81, Try.ntmps81
  refine wp_seq_k fun K1 hK1 => ?_
  refine wp_region_list (WL.out ?_)
  refine WL.box (by kernel_rfl) 79 (.tmp 0) rfl (opA x) rfl ?_
  rw [hw1.out]
  simp only [Act.put, List.setIfInBounds_toArray, List.set_cons_zero, List.set_cons_succ]
  refine WL.val (by kernel_rfl) (.bool false) (by go_simp) ?_
  simp only [Act.put, List.setIfInBounds_toArray, List.set_cons_zero, List.set_cons_succ]
  refine WL.nil ?_
  refine hK1 _ _ ?_
  refine wp_seq_k fun K2 hK2 => ?_
  refine wp_region_list (WL.out ?_)
  refine WL.row (by kernel_rfl) 79 (.tmp 2) rfl w.heap.size rfl 79 (opA x) _ HB.out Try.underlying79 rfl (Try.size79B x) ?_
  simp only [Act.put, List.setIfInBounds_toArray, List.set_cons_zero, List.set_cons_succ]
  refine WL.new (by kernel_rfl) 79 rfl _ Try.new79 ?_
  simp only [Act.put, List.setIfInBounds_toArray, List.set_cons_zero, List.set_cons_succ]
  refine WL.storeR (by kernel_rfl) 79 (.tmp 5) (.tmp 8) rfl w1.heap.size (opA x) rfl rfl 79 (opA zeroOp) (Blk.new w1 79 _) (Try.size79B x) (opA_sizes _ _) (opA_one x) ?_
  have HX := Keep.mk ((Blk.new w1 79 (opA zeroOp)).setRow (opA x))
  have HW2 : Keep (Below w.heap.size w ((w1.alloc (.cells (opA zeroOp) 79)).setRow w1.heap.size (opA x))) := ⟨below_setRow (HW.out.alloc HW.out.size _) HW.out.size _⟩
  generalize (w1.alloc (.cells (opA zeroOp) 79)).setRow w1.heap.size (opA x) = w2 at *
  have c0 := HX.out.c 0 (opA_0 x)
  have f0 := HX.out.frozen 0
  simp only [Act.put]
  refine WL.nil ?_
  refine hK2 _ _ ?_
  refine wp_seq_k fun K3 hK3 => ?_
  refine wp_region_list (WL.out ?_)
  refine WL.val (by kernel_rfl) (.pointer (some ⟨w1.heap.size, 0, none⟩)) (by go_simp) ?_
  simp only [Act.put, List.setIfInBounds_toArray, List.set_cons_zero, List.set_cons_succ]
  refine WL.cell (by kernel_rfl) (w2.setCell ⟨w1.heap.size, 0, none⟩ (.int .i64 0)) (by go_simp) ?_
  have hX0 : Blk (w2.setCell ⟨w1.heap.size, 0, none⟩ (.int .i64 0)) w1.heap.size 79 (opA x0) := by rw [hx0]; have h := HX.out.set 0 (.int .i64 0); rw [set_0] at h; exact h
  have hB0 : Below w.heap.size w (w2.setCell ⟨w1.heap.size, 0, none⟩ (.int .i64 0)) := HW2.out.setCell HW.out.size _
  have hF0 := HF.out.below hB0
  generalize w2.setCell ⟨w1.heap.size, 0, none⟩ (.int .i64 0) = w3 at *
  clear c0 f0
  simp only [Act.put]
  refine WL.nil ?_
  refine hK3 _ _ ?_
  refine wp_seq_k fun K4 hK4 => ?_
  refine wp_seq_k fun K5 hK5 => ?_
  refine wp_region_list (WL.out ?_)
  refine WL.val (by kernel_rfl) (.slice va is.length vc) (by go_simp) ?_
  simp only [Act.put, List.setIfInBounds_toArray, List.set_cons_zero, List.set_cons_succ]
  refine WL.val (by kernel_rfl) (.int .i64 (is.length : Int)) (by go_simp) ?_
  simp only [Act.put, List.setIfInBounds_toArray, List.set_cons_zero, List.set_cons_succ]
  refine WL.val (by kernel_rfl) (.int .i64 0) (by go_simp) ?_
  simp only [Act.put, List.setIfInBounds_toArray, List.set_cons_zero, List.set_cons_succ]
  refine WL.nil ?_
  refine hK5 _ _ ?_
  refine wp_block ?_
  refine wp_loop (fun a wr => ∃ (t : Nat) (u7 u13 u14 u15 u16 u17 u18 u19 : Value), a = { tmps := #[.agg (opA x), .slice va is.length vc, .pointer (some ⟨w.heap.size, 0, none⟩), undef, .bool false, .pointer (some ⟨w1.heap.size, 0, none⟩), undef, u7, .agg (opA x), .pointer (some ⟨w1.heap.size, 0, none⟩), .slice va is.length vc, .int .i64 (is.length : Int), .int .i64 (t : Int), u13, u14, u15, u16, u17, u18, u19, undef, undef, undef, undef], defers := [] } ∧ t ≤ is.length ∧ Blk wr w1.heap.size 79 (opA (wipes (is.take t) x0)) ∧ FieldsAt wr (.slice va is.length vc) is ∧ Below w.heap.size w wr) (fun a _ => is.length - (intOf (a.tmps.getD 12 undef)).toNat) ⟨0, undef, undef, undef, undef, undef, undef, undef, undef, rfl, by omega, hX0, hF0, hB0⟩ ?_
  rintro a wr ⟨t, u7, u13, u14, u15, u16, u17, u18, u19, rfl, ht, hX, hF, hB⟩
  by_cases htl : t < is.length
  · have htl' : (t : Int) < (is.length : Int) := by omega
    obtain ⟨gF, rfl, hr⟩ := hF.at htl
    have hi4 := Hi.out _ (show is.getD t 0 ∈ is by simp [List.getD_eq_getElem?_getD, htl])
    have hnx := wipes_next is t htl x0
    obtain ⟨y, hy⟩ : ∃ y, y = wipes (is.take t) x0 := ⟨_, rfl⟩
    rw [← hy] at hX hnx
    have hg : w1.heap.size < wr.heap.size := hX.lt
    have hn1 : IntKind.i64.wrap ((t : Int) + 1) = (t : Int) + 1 := by rw [IntKind.wrap_i64]; have := Hn.out; omega
    have HFl := Keep.mk hF
    have HXl := Keep.mk hX
    have HBl := Keep.mk hB
    clear hF hX hB
    generalize is.getD t 0 = i at *
    rcases (show i = 0 ∨ i = 1 ∨ i = 2 ∨ i = 3 by omega) with rfl | rfl | rfl | rfl
    · refine wp_seq_k fun K6 hK6 => ?_
      refine wp_region_list (WL.out ?_)
      refine WL.val (by kernel_rfl) (.bool true) (by go_simp) ?_
      simp only [Act.put, List.setIfInBounds_toArray, List.set_cons_zero, List.set_cons_succ]
      refine WL.nil ?_
      refine hK6 _ _ ?_
      refine wp_seq_k fun K7 hK7 => ?_
      refine wp_cond_true rfl ?_
      refine wp_skip ?_
      refine hK7 _ _ ?_
      refine wp_seq_k fun K8 hK8 => ?_
      refine wp_block ?_
      refine wp_seq_k fun K9 hK9 => ?_
      refine wp_region_list (WL.out ?_)
      refine WL.val (by kernel_rfl) (.pointer (some ⟨gF, 0 + t * 3, none⟩)) (by go_simp) ?_
      simp only [Act.put, List.setIfInBounds_toArray, List.set_cons_zero, List.set_cons_succ]
      refine WL.midA (by kernel_rfl) 129 (.tmp 14) rfl gF (0 + t * 3) rfl (fldA 0) _ hr Try.underlying129 rfl (Try.size129B 0) ?_
      simp only [Act.put, List.setIfInBounds_toArray, List.set_cons_zero, List.set_cons_succ]
      refine WL.new (by kernel_rfl) 129 rfl _ Try.new129 ?_
      simp only [Act.put, List.setIfInBounds_toArray, List.set_cons_zero, List.set_cons_succ]
      refine WL.storeR (by kernel_rfl) 129 (.tmp 7) (.tmp 15) rfl wr.heap.size (fldA 0) rfl rfl 129 noF (Blk.new wr 129 noF) (Try.size129B 0) (noF_sizes 0) (fldA_one 0) ?_
      have HN := Keep.mk ((Blk.new wr 129 noF).setRow (fldA 0))
      have HX2 := Keep.mk ((HXl.out.alloc (.cells noF 129)).setRow_ne (b' := wr.heap.size) (by omega) (fldA 0))
      have HG2 : Keep (Below wr.heap.size wr ((wr.alloc (.cells noF 129)).setRow wr.heap.size (fldA 0))) := ⟨below_setRow (below_new wr _) (Nat.le_refl _) _⟩
      generalize (wr.alloc (.cells noF 129)).setRow wr.heap.size (fldA 0) = wq at *
      have cf : wq.cell? ⟨wr.heap.size, 0, none⟩ = some (fnv 99) := HN.out.c 0 rfl
      unfold fnv at cf
      simp only [Act.put]
      refine WL.nil ?_
      refine hK9 _ _ ?_
      refine wp_region_list (WL.out ?_)
      refine WL.val (by kernel_rfl) (.pointer (some ⟨wr.heap.size, 0, none⟩)) (by go_simp) ?_
      simp only [Act.put, List.setIfInBounds_toArray, List.set_cons_zero, List.set_cons_succ]
      refine WL.val (by kernel_rfl) (.func (.func 99) #[] #[]) (by go_simp) ?_
      simp only [Act.put, List.setIfInBounds_toArray, List.set_cons_zero, List.set_cons_succ]
      refine WL.callV (by kernel_rfl) 99 (.tmp 17) _ _ rfl rfl Try.in99 #[ptr w1.heap.size] (by simp [Act.eval]) ?_
      refine (wipe0_any w1.heap.size y wq HX2.out).mono ?_
      rintro e w5 ⟨rfl, h5, h6⟩
      refine ⟨_, rfl, ?_⟩
      have HX5 := Keep.mk h5
      have HG5 : Keep (Grown wr w5 fun k => k = w1.heap.size) := ⟨(Grown.below HG2.out).trans h6⟩
      clear h5 h6 cf
      simp only [Act.put, List.setIfInBounds_toArray, List.set_cons_zero, List.set_cons_succ]
      refine WL.nil ?_
      refine hK8 _ _ ?_
      refine wp_region_list (WL.out ?_)
      refine WL.val (by kernel_rfl) (.int .i64 ((t : Int) + 1)) (by go_simp) ?_
      simp only [Act.put, List.setIfInBounds_toArray, List.set_cons_zero, List.set_cons_succ]
      refine WL.val (by kernel_rfl) (.int .i64 ((t : Int) + 1)) (by go_simp) ?_
      simp only [Act.put, List.setIfInBounds_toArray, List.set_cons_zero, List.set_cons_succ]
      refine WL.nil ?_
      refine ⟨⟨t + 1, .pointer (some ⟨wr.heap.size, 0, none⟩), .bool true, .pointer (some ⟨gF, 0 + t * 3, none⟩), .agg (fldA 0), .pointer (some ⟨wr.heap.size, 0, none⟩), .func (.func 99) #[] #[], .tuple #[], .int .i64 ((t : Int) + 1), rfl, by omega, by rw [hnx]; exact HX5.out, HFl.out.grown HG5.out ?_, ?_⟩, ?_⟩
      · intro g hgb e; subst e; exact absurd (blk_type hgb HXl.out) (by decide)
      · exact ⟨HG5.out.os.trans HBl.out.os, HG5.out.tape.trans HBl.out.tape, HG5.out.output.trans HBl.out.output, Nat.le_trans HBl.out.size HG5.out.size, fun j hj => by rw [HG5.out.block j (Nat.lt_of_lt_of_le hj HBl.out.size) (by have := Hw1.out; omega)]; exact HBl.out.block j hj⟩
      · simp only [intOf]; show is.length - ((t : Int) + 1).toNat < is.length - ((t : Int)).toNat; omega
    · refine wp_seq_k fun K10 hK10 => ?_
      refine wp_region_list (WL.out ?_)
      refine WL.val (by kernel_rfl) (.bool true) (by go_simp) ?_
      simp only [Act.put, List.setIfInBounds_toArray, List.set_cons_zero, List.set_cons_succ]
      refine WL.nil ?_
      refine hK10 _ _ ?_
      refine wp_seq_k fun K11 hK11 => ?_
      refine wp_cond_true rfl ?_
      refine wp_skip ?_
      refine hK11 _ _ ?_
      refine wp_seq_k fun K12 hK12 => ?_
      refine wp_block ?_
      refine wp_seq_k fun K13 hK13 => ?_
      refine wp_region_list (WL.out ?_)
      refine WL.val (by kernel_rfl) (.pointer (some ⟨gF, 0 + t * 3, none⟩)) (by go_simp) ?_
      simp only [Act.put, List.setIfInBounds_toArray, List.set_cons_zero, List.set_cons_succ]
      refine WL.midA (by kernel_rfl) 129 (.tmp 14) rfl gF (0 + t * 3) rfl (fldA 1) _ hr Try.underlying129 rfl (Try.size129B 1) ?_
      simp only [Act.put, List.setIfInBounds_toArray, List.set_cons_zero, List.set_cons_succ]
      refine WL.new (by kernel_rfl) 129 rfl _ Try.new129 ?_
      simp only [Act.put, List.setIfInBounds_toArray, List.set_cons_zero, List.set_cons_succ]
      refine WL.storeR (by kernel_rfl) 129 (.tmp 7) (.tmp 15) rfl wr.heap.size (fldA 1) rfl rfl 129 noF (Blk.new wr 129 noF) (Try.size129B 1) (noF_sizes 1) (fldA_one 1) ?_
      have HN := Keep.mk ((Blk.new wr 129 noF).setRow (fldA 1))
      have HX2 := Keep.mk ((HXl.out.alloc (.cells noF 129)).setRow_ne (b' := wr.heap.size) (by omega) (fldA 1))
      have HG2 : Keep (Below wr.heap.size wr ((wr.alloc (.cells noF 129)).setRow wr.heap.size (fldA 1))) := ⟨below_setRow (below_new wr _) (Nat.le_refl _) _⟩
      generalize (wr.alloc (.cells noF 129)).setRow wr.heap.size (fldA 1) = wq at *
      have cf : wq.cell? ⟨wr.heap.size, 0, none⟩ = some (fnv 104) := HN.out.c 0 rfl
      unfold fnv at cf
      simp only [Act.put]
      refine WL.nil ?_
      refine hK13 _ _ ?_
      refine wp_region_list (WL.out ?_)
      refine WL.val (by kernel_rfl) (.pointer (some ⟨wr.heap.size, 0, none⟩)) (by go_simp) ?_
      simp only [Act.put, List.setIfInBounds_toArray, List.set_cons_zero, List.set_cons_succ]
      refine WL.val (by kernel_rfl) (.func (.func 104) #[] #[]) (by go_simp) ?_
      simp only [Act.put, List.setIfInBounds_toArray, List.set_cons_zero, List.set_cons_succ]
      refine WL.callV (by kernel_rfl) 104 (.tmp 17) _ _ rfl rfl Try.in104 #[ptr w1.heap.size] (by simp [Act.eval]) ?_
      refine (wipe1_any w1.heap.size y wq HX2.out).mono ?_
      rintro e w5 ⟨rfl, h5, h6⟩
      refine ⟨_, rfl, ?_⟩
      have HX5 := Keep.mk h5
      have HG5 : Keep (Grown wr w5 fun k => k = w1.heap.size) := ⟨(Grown.below HG2.out).trans h6⟩
      clear h5 h6 cf
      simp only [Act.put, List.setIfInBounds_toArray, List.set_cons_zero, List.set_cons_succ]
      refine WL.nil ?_
      refine hK12 _ _ ?_
      refine wp_region_list (WL.out ?_)
      refine WL.val (by kernel_rfl) (.int .i64 ((t : Int) + 1)) (by go_simp) ?_
      simp only [Act.put, List.setIfInBounds_toArray, List.set_cons_zero, List.set_cons_succ]
      refine WL.val (by kernel_rfl) (.int .i64 ((t : Int) + 1)) (by go_simp) ?_
      simp only [Act.put, List.setIfInBounds_toArray, List.set_cons_zero, List.set_cons_succ]
      refine WL.nil ?_
      refine ⟨⟨t + 1, .pointer (some ⟨wr.heap.size, 0, none⟩), .bool true, .pointer (some ⟨gF, 0 + t * 3, none⟩), .agg (fldA 1), .pointer (some ⟨wr.heap.size, 0, none⟩), .func (.func 104) #[] #[], .tuple #[], .int .i64 ((t : Int) + 1), rfl, by omega, by rw [hnx]; exact HX5.out, HFl.out.grown HG5.out ?_, ?_⟩, ?_⟩
      · intro g hgb e; subst e; exact absurd (blk_type hgb HXl.out) (by decide)
      · exact ⟨HG5.out.os.trans HBl.out.os, HG5.out.tape.trans HBl.out.tape, HG5.out.output.trans HBl.out.output, Nat.le_trans HBl.out.size HG5.out.size, fun j hj => by rw [HG5.out.block j (Nat.lt_of_lt_of_le hj HBl.out.size) (by have := Hw1.out; omega)]; exact HBl.out.block j hj⟩
      · simp only [intOf]; show is.length - ((t : Int) + 1).toNat < is.length - ((t : Int)).toNat; omega
    · refine wp_seq_k fun K14 hK14 => ?_
      refine wp_region_list (WL.out ?_)
      refine WL.val (by kernel_rfl) (.bool true) (by go_simp) ?_
      simp only [Act.put, List.setIfInBounds_toArray, List.set_cons_zero, List.set_cons_succ]
      refine WL.nil ?_
      refine hK14 _ _ ?_
      refine wp_seq_k fun K15 hK15 => ?_
      refine wp_cond_true rfl ?_
      refine wp_skip ?_
      refine hK15 _ _ ?_
      refine wp_seq_k fun K16 hK16 => ?_
      refine wp_block ?_
      refine wp_seq_k fun K17 hK17 => ?_
      refine wp_region_list (WL.out ?_)
      refine WL.val (by kernel_rfl) (.pointer (some ⟨gF, 0 + t * 3, none⟩)) (by go_simp) ?_
      simp only [Act.put, List.setIfInBounds_toArray, List.set_cons_zero, List.set_cons_succ]
      refine WL.midA (by kernel_rfl) 129 (.tmp 14) rfl gF (0 + t * 3) rfl (fldA 2) _ hr Try.underlying129 rfl (Try.size129B 2) ?_
      simp only [Act.put, List.setIfInBounds_toArray, List.set_cons_zero, List.set_cons_succ]
      refine WL.new (by kernel_rfl) 129 rfl _ Try.new129 ?_
      simp only [Act.put, List.setIfInBounds_toArray, List.set_cons_zero, List.set_cons_succ]
      refine WL.storeR (by kernel_rfl) 129 (.tmp 7) (.tmp 15) rfl wr.heap.size (fldA 2) rfl rfl 129 noF (Blk.new wr 129 noF) (Try.size129B 2) (noF_sizes 2) (fldA_one 2) ?_
      have HN := Keep.mk ((Blk.new wr 129 noF).setRow (fldA 2))
      have HX2 := Keep.mk ((HXl.out.alloc (.cells noF 129)).setRow_ne (b' := wr.heap.size) (by omega) (fldA 2))
      have HG2 : Keep (Below wr.heap.size wr ((wr.alloc (.cells noF 129)).setRow wr.heap.size (fldA 2))) := ⟨below_setRow (below_new wr _) (Nat.le_refl _) _⟩
      generalize (wr.alloc (.cells noF 129)).setRow wr.heap.size (fldA 2) = wq at *
      have cf : wq.cell? ⟨wr.heap.size, 0, none⟩ = some (fnv 107) := HN.out.c 0 rfl
      unfold fnv at cf
      simp only [Act.put]
      refine WL.nil ?_
      refine hK17 _ _ ?_
      refine wp_region_list (WL.out ?_)
      refine WL.val (by kernel_rfl) (.pointer (some ⟨wr.heap.size, 0, none⟩)) (by go_simp) ?_
      simp only [Act.put, List.setIfInBounds_toArray, List.set_cons_zero, List.set_cons_succ]
      refine WL.val (by kernel_rfl) (.func (.func 107) #[] #[]) (by go_simp) ?_
      simp only [Act.put, List.setIfInBounds_toArray, List.set_cons_zero, List.set_cons_succ]
      refine WL.callV (by kernel_rfl) 107 (.tmp 17) _ _ rfl rfl Try.in107 #[ptr w1.heap.size] (by simp [Act.eval]) ?_
      refine (wipe2_any w1.heap.size y wq HX2.out).mono ?_
      rintro e w5 ⟨rfl, h5, h6⟩
      refine ⟨_, rfl, ?_⟩
      have HX5 := Keep.mk h5
      have HG5 : Keep (Grown wr w5 fun k => k = w1.heap.size) := ⟨(Grown.below HG2.out).trans h6⟩
      clear h5 h6 cf
      simp only [Act.put, List.setIfInBounds_toArray, List.set_cons_zero, List.set_cons_succ]
      refine WL.nil ?_
      refine hK16 _ _ ?_
      refine wp_region_list (WL.out ?_)
      refine WL.val (by kernel_rfl) (.int .i64 ((t : Int) + 1)) (by go_simp) ?_
      simp only [Act.put, List.setIfInBounds_toArray, List.set_cons_zero, List.set_cons_succ]
      refine WL.val (by kernel_rfl) (.int .i64 ((t : Int) + 1)) (by go_simp) ?_
      simp only [Act.put, List.setIfInBounds_toArray, List.set_cons_zero, List.set_cons_succ]
      refine WL.nil ?_
      refine ⟨⟨t + 1, .pointer (some ⟨wr.heap.size, 0, none⟩), .bool true, .pointer (some ⟨gF, 0 + t * 3, none⟩), .agg (fldA 2), .pointer (some ⟨wr.heap.size, 0, none⟩), .func (.func 107) #[] #[], .tuple #[], .int .i64 ((t : Int) + 1), rfl, by omega, by rw [hnx]; exact HX5.out, HFl.out.grown HG5.out ?_, ?_⟩, ?_⟩
      · intro g hgb e; subst e; exact absurd (blk_type hgb HXl.out) (by decide)
      · exact ⟨HG5.out.os.trans HBl.out.os, HG5.out.tape.trans HBl.out.tape, HG5.out.output.trans HBl.out.output, Nat.le_trans HBl.out.size HG5.out.size, fun j hj => by rw [HG5.out.block j (Nat.lt_of_lt_of_le hj HBl.out.size) (by have := Hw1.out; omega)]; exact HBl.out.block j hj⟩
      · simp only [intOf]; show is.length - ((t : Int) + 1).toNat < is.length - ((t : Int)).toNat; omega
    · refine wp_seq_k fun K18 hK18 => ?_
      refine wp_region_list (WL.out ?_)
      refine WL.val (by kernel_rfl) (.bool true) (by go_simp) ?_
      simp only [Act.put, List.setIfInBounds_toArray, List.set_cons_zero, List.set_cons_succ]
      refine WL.nil ?_
      refine hK18 _ _ ?_
      refine wp_seq_k fun K19 hK19 => ?_
      refine wp_cond_true rfl ?_
      refine wp_skip ?_
      refine hK19 _ _ ?_
      refine wp_seq_k fun K20 hK20 => ?_
      refine wp_block ?_
      refine wp_seq_k fun K21 hK21 => ?_
      refine wp_region_list (WL.out ?_)
      refine WL.val (by kernel_rfl) (.pointer (some ⟨gF, 0 + t * 3, none⟩)) (by go_simp) ?_
      simp only [Act.put, List.setIfInBounds_toArray, List.set_cons_zero, List.set_cons_succ]
      refine WL.midA (by kernel_rfl) 129 (.tmp 14) rfl gF (0 + t * 3) rfl (fldA 3) _ hr Try.underlying129 rfl (Try.size129B 3) ?_
      simp only [Act.put, List.setIfInBounds_toArray, List.set_cons_zero, List.set_cons_succ]
      refine WL.new (by kernel_rfl) 129 rfl _ Try.new129 ?_
      simp only [Act.put, List.setIfInBounds_toArray, List.set_cons_zero, List.set_cons_succ]
      refine WL.storeR (by kernel_rfl) 129 (.tmp 7) (.tmp 15) rfl wr.heap.size (fldA 3) rfl rfl 129 noF (Blk.new wr 129 noF) (Try.size129B 3) (noF_sizes 3) (fldA_one 3) ?_
      have HN := Keep.mk ((Blk.new wr 129 noF).setRow (fldA 3))
      have HX2 := Keep.mk ((HXl.out.alloc (.cells noF 129)).setRow_ne (b' := wr.heap.size) (by omega) (fldA 3))
      have HG2 : Keep (Below wr.heap.size wr ((wr.alloc (.cells noF 129)).setRow wr.heap.size (fldA 3))) := ⟨below_setRow (below_new wr _) (Nat.le_refl _) _⟩
      generalize (wr.alloc (.cells noF 129)).setRow wr.heap.size (fldA 3) = wq at *
      have cf : wq.cell? ⟨wr.heap.size, 0, none⟩ = some (fnv 112) := HN.out.c 0 rfl
      unfold fnv at cf
      simp only [Act.put]
      refine WL.nil ?_
      refine hK21 _ _ ?_
      refine wp_region_list (WL.out ?_)
      refine WL.val (by kernel_rfl) (.pointer (some ⟨wr.heap.size, 0, none⟩)) (by go_simp) ?_
      simp only [Act.put, List.setIfInBounds_toArray, List.set_cons_zero, List.set_cons_succ]
      refine WL.val (by kernel_rfl) (.func (.func 112) #[] #[]) (by go_simp) ?_
      simp only [Act.put, List.setIfInBounds_toArray, List.set_cons_zero, List.set_cons_succ]
      refine WL.callV (by kernel_rfl) 112 (.tmp 17) _ _ rfl rfl Try.in112 #[ptr w1.heap.size] (by simp [Act.eval]) ?_
      refine (wipe3_any w1.heap.size y wq HX2.out).mono ?_
      rintro e w5 ⟨rfl, h5, h6⟩
      refine ⟨_, rfl, ?_⟩
      have HX5 := Keep.mk h5
      have HG5 : Keep (Grown wr w5 fun k => k = w1.heap.size) := ⟨(Grown.below HG2.out).trans h6⟩
      clear h5 h6 cf
      simp only [Act.put, List.setIfInBounds_toArray, List.set_cons_zero, List.set_cons_succ]
      refine WL.nil ?_
      refine hK20 _ _ ?_
      refine wp_region_list (WL.out ?_)
      refine WL.val (by kernel_rfl) (.int .i64 ((t : Int) + 1)) (by go_simp) ?_
      simp only [Act.put, List.setIfInBounds_toArray, List.set_cons_zero, List.set_cons_succ]
      refine WL.val (by kernel_rfl) (.int .i64 ((t : Int) + 1)) (by go_simp) ?_
      simp only [Act.put, List.setIfInBounds_toArray, List.set_cons_zero, List.set_cons_succ]
      refine WL.nil ?_
      refine ⟨⟨t + 1, .pointer (some ⟨wr.heap.size, 0, none⟩), .bool true, .pointer (some ⟨gF, 0 + t * 3, none⟩), .agg (fldA 3), .pointer (some ⟨wr.heap.size, 0, none⟩), .func (.func 112) #[] #[], .tuple #[], .int .i64 ((t : Int) + 1), rfl, by omega, by rw [hnx]; exact HX5.out, HFl.out.grown HG5.out ?_, ?_⟩, ?_⟩
      · intro g hgb e; subst e; exact absurd (blk_type hgb HXl.out) (by decide)
      · exact ⟨HG5.out.os.trans HBl.out.os, HG5.out.tape.trans HBl.out.tape, HG5.out.output.trans HBl.out.output, Nat.le_trans HBl.out.size HG5.out.size, fun j hj => by rw [HG5.out.block j (Nat.lt_of_lt_of_le hj HBl.out.size) (by have := Hw1.out; omega)]; exact HBl.out.block j hj⟩
      · simp only [intOf]; show is.length - ((t : Int) + 1).toNat < is.length - ((t : Int)).toNat; omega
  · obtain rfl : t = is.length := by omega
    have htl' : ¬ (is.length : Int) < (is.length : Int) := by omega
    rw [List.take_length] at hX
    obtain ⟨y, hy⟩ : ∃ y, y = wipes is x0 := ⟨_, rfl⟩
    rw [← hy] at hX ⊢
    refine wp_seq_k fun K22 hK22 => ?_
    refine wp_region_list (WL.out ?_)
    refine WL.val (by kernel_rfl) (.bool false) (by go_simp) ?_
    simp only [Act.put, List.setIfInBounds_toArray, List.set_cons_zero, List.set_cons_succ]
    refine WL.nil ?_
    refine hK22 _ _ ?_
    refine wp_seq_k fun K23 hK23 => ?_
    refine wp_cond_false rfl ?_
    refine wp_exit ?_
    refine hK4 _ _ ?_
    refine wp_seq_k fun K24 hK24 => ?_
    refine wp_region_list (WL.out ?_)
    refine WL.row (by kernel_rfl) 79 (.tmp 5) rfl w1.heap.size rfl 79 (opA y) _ hX Try.underlying79 rfl (Try.size79B y) ?_
    simp only [Act.put, List.setIfInBounds_toArray, List.set_cons_zero, List.set_cons_succ]
    refine WL.bld (by kernel_rfl) 79 _ rfl [] (by simp) (opA zeroOp) Try.built79 ?_
    simp only [Act.put, List.setIfInBounds_toArray, List.set_cons_zero, List.set_cons_succ]
    refine WL.callF (by kernel_rfl) 41 _ _ rfl Try.in41 #[.agg (opA y), .agg (opA zeroOp)] (by simp [Act.eval]) ?_
    refine (same_any y zeroOp wr).mono ?_
    rintro e w5 ⟨rfl, h5⟩
    refine ⟨_, rfl, ?_⟩
    simp only [Act.put, List.setIfInBounds_toArray, List.set_cons_zero, List.set_cons_succ]
    refine WL.val (by kernel_rfl) (.bool (!sm y zeroOp)) (by go_simp) ?_
    simp only [Act.put, List.setIfInBounds_toArray, List.set_cons_zero, List.set_cons_succ]
    refine WL.val (by kernel_rfl) (.bool (!sm y zeroOp)) (by go_simp) ?_
    simp only [Act.put, List.setIfInBounds_toArray, List.set_cons_zero, List.set_cons_succ]
    refine WL.nil ?_
    refine hK24 _ _ ?_
    refine wp_ret ?_
    go_ret
    exact ⟨by rw [← hy]; rfl, hB.trans (h5.mono hB.size)⟩
def wrongV (l : List OpV) (x : OpV) : Int :=
  if hasI x.kind = [] then 40 else if 65536 < x.key.size then 4 else if 65536 < x.text.size then 4 else if sm (wipes (hasI x.kind) { x with kind := 0 }) zeroOp = false then 41 else if cellV x.kind = 4 then (if mayAt l x = true then 0 else 42) else 0
theorem hasI_lt (k : Int) : ∀ i ∈ hasI k, i < 4 := by
  by_cases h : k ∈ ([1, 2, 3, 4, 5, 6, 7, 8, 9] : List Int)
  · simp only [List.mem_cons, List.not_mem_nil, or_false] at h
    rcases h with rfl | rfl | rfl | rfl | rfl | rfl | rfl | rfl | rfl <;> decide
  · rw [hasI_none k h]; simp
theorem hasI_len (k : Int) : (hasI k).length ≤ 3 := by
  by_cases h : k ∈ ([1, 2, 3, 4, 5, 6, 7, 8, 9] : List Int)
  · simp only [List.mem_cons, List.not_mem_nil, or_false] at h
    rcases h with rfl | rfl | rfl | rfl | rfl | rfl | rfl | rfl | rfl <;> decide
  · rw [hasI_none k h]; simp
set_option maxRecDepth 8000 in
set_option maxHeartbeats 1000000 in
theorem wrong_any (x : OpV) (v vl : Value) (l : List OpV) (w : World) (hF : FieldsAt w v (hasI x.kind)) (hx : OpOk x) (hl : OpsAt w vl l) (hb : l.length ≤ 4398046511104) :
    Calls Try.prog 54 #[.agg (opA x), v, vl] w fun e w' => e = .returned (.int .i64 (wrongV l x)) ∧ Below w.heap.size w w' := by
  obtain ⟨va, vc, rfl⟩ := hF.form
  obtain ⟨la, lc, rfl⟩ := hl.form
  have HF := Keep.mk hF
  have Hx := Keep.mk hx
  have HL := Keep.mk hl
  have Hl := Keep.mk hb
  have HB := Keep.mk (Blk.new w 79 (opA x))
  have HW := Keep.mk (below_new w (.cells (opA x) 79))
  obtain ⟨w1, hw1⟩ : ∃ w1, Keep (w.alloc (.cells (opA x) 79) = w1) := ⟨_, ⟨rfl⟩⟩
  rw [hw1.out] at HB HW
  have c0 := HB.out.c 0 (opA_0 x)
  have c1 := HB.out.c 1 (opA_1 x)
  have c2 := HB.out.c 2 (opA_2 x)
  have hk1 : (x.key.size : Int) ≤ 9223372036854775807 := by have := hx.key; omega
  have hk2 : (x.text.size : Int) ≤ 9223372036854775807 := by have := hx.text; omega
  obtain ⟨R, hR⟩ : ∃ R, R = wrongV l x := ⟨_, rfl⟩
  rw [← hR]
  unfold wrongV at hR
  have HR := Keep.mk hR
  have hI3 := hasI_len x.kind
  clear hF hx hl hb hR
  go_enter Try.func54, Try.ntmps54
  by_cases hA : hasI x.kind = []
  · rw [if_pos hA] at HR
    have hA0 : (hasI x.kind).length = 0 := by rw [hA]; rfl
    refine wp_seq_k fun K1 hK1 => ?_
    refine wp_region_list (WL.out ?_)
    refine WL.box (by kernel_rfl) 79 (.tmp 0) rfl (opA x) rfl ?_
    rw [hw1.out]
    simp only [Act.put, List.setIfInBounds_toArray, List.set_cons_zero, List.set_cons_succ]
    refine WL.val (by kernel_rfl) (.int .i64 0) (by go_simp) ?_
    simp only [Act.put, List.setIfInBounds_toArray, List.set_cons_zero, List.set_cons_succ]
    refine WL.nil ?_
    refine hK1 _ _ ?_
    refine wp_seq_k fun K2 hK2 => ?_
    refine wp_block ?_
    refine wp_seq_k fun K3 hK3 => ?_
    refine wp_region_list (WL.out ?_)
    refine WL.val (by kernel_rfl) (.slice va (hasI x.kind).length vc) (by go_simp) ?_
    simp only [Act.put, List.setIfInBounds_toArray, List.set_cons_zero, List.set_cons_succ]
    refine WL.val (by kernel_rfl) (.int .i64 ((hasI x.kind).length : Int)) (by go_simp) ?_
    simp only [Act.put, List.setIfInBounds_toArray, List.set_cons_zero, List.set_cons_succ]
    refine WL.val (by kernel_rfl) (.bool true) (by go_simp) ?_
    simp only [Act.put, List.setIfInBounds_toArray, List.set_cons_zero, List.set_cons_succ]
    refine WL.val (by kernel_rfl) (.bool true) (by go_simp) ?_
    simp only [Act.put, List.setIfInBounds_toArray, List.set_cons_zero, List.set_cons_succ]
    refine WL.nil ?_
    refine hK3 _ _ ?_
    refine wp_cond_true rfl ?_
    refine wp_seq_k fun K4 hK4 => ?_
    refine wp_region_list (WL.out ?_)
    refine WL.val (by kernel_rfl) (.int .i64 40) (by go_simp) ?_
    simp only [Act.put, List.setIfInBounds_toArray, List.set_cons_zero, List.set_cons_succ]
    refine WL.nil ?_
    refine hK4 _ _ ?_
    refine wp_ret ?_
    go_ret
    exact ⟨by rw [HR.out]; rfl, HW.out⟩
  · rw [if_neg hA] at HR
    have hA0 : (hasI x.kind).length ≠ 0 := fun e => hA (List.eq_nil_of_length_eq_zero e)
    have hA1 : ¬ ((hasI x.kind).length : Int) = 0 := by omega
    by_cases hB1 : 65536 < x.key.size
    · rw [if_pos hB1] at HR
      have hB1' : (65536 : Int) < (x.key.size : Int) := by omega
      refine wp_seq_k fun K1 hK1 => ?_
      refine wp_region_list (WL.out ?_)
      refine WL.box (by kernel_rfl) 79 (.tmp 0) rfl (opA x) rfl ?_
      rw [hw1.out]
      simp only [Act.put, List.setIfInBounds_toArray, List.set_cons_zero, List.set_cons_succ]
      refine WL.val (by kernel_rfl) (.int .i64 0) (by go_simp) ?_
      simp only [Act.put, List.setIfInBounds_toArray, List.set_cons_zero, List.set_cons_succ]
      refine WL.nil ?_
      refine hK1 _ _ ?_
      refine wp_seq_k fun K2 hK2 => ?_
      refine wp_block ?_
      refine wp_seq_k fun K3 hK3 => ?_
      refine wp_region_list (WL.out ?_)
      refine WL.val (by kernel_rfl) (.slice va (hasI x.kind).length vc) (by go_simp) ?_
      simp only [Act.put, List.setIfInBounds_toArray, List.set_cons_zero, List.set_cons_succ]
      refine WL.val (by kernel_rfl) (.int .i64 ((hasI x.kind).length : Int)) (by go_simp) ?_
      simp only [Act.put, List.setIfInBounds_toArray, List.set_cons_zero, List.set_cons_succ]
      refine WL.val (by kernel_rfl) (.bool false) (by go_simp) ?_
      simp only [Act.put, List.setIfInBounds_toArray, List.set_cons_zero, List.set_cons_succ]
      refine WL.val (by kernel_rfl) (.bool false) (by go_simp) ?_
      simp only [Act.put, List.setIfInBounds_toArray, List.set_cons_zero, List.set_cons_succ]
      refine WL.nil ?_
      refine hK3 _ _ ?_
      refine wp_cond_false rfl ?_
      refine wp_seq_k fun K4 hK4 => ?_
      refine wp_region_list (WL.out ?_)
      refine WL.val (by kernel_rfl) (.pointer (some ⟨w.heap.size, 1, none⟩)) (by go_simp) ?_
      simp only [Act.put, List.setIfInBounds_toArray, List.set_cons_zero, List.set_cons_succ]
      refine WL.val (by kernel_rfl) (.string x.key) (by go_simp) ?_
      simp only [Act.put, List.setIfInBounds_toArray, List.set_cons_zero, List.set_cons_succ]
      refine WL.val (by kernel_rfl) (.int .i64 (x.key.size : Int)) (by go_simp) ?_
      simp only [Act.put, List.setIfInBounds_toArray, List.set_cons_zero, List.set_cons_succ]
      refine WL.val (by kernel_rfl) (.bool true) (by go_simp) ?_
      simp only [Act.put, List.setIfInBounds_toArray, List.set_cons_zero, List.set_cons_succ]
      refine WL.val (by kernel_rfl) (.bool true) (by go_simp) ?_
      simp only [Act.put, List.setIfInBounds_toArray, List.set_cons_zero, List.set_cons_succ]
      refine WL.skip (by kernel_rfl) ?_
      simp only [Act.put, List.setIfInBounds_toArray, List.set_cons_zero, List.set_cons_succ]
      refine WL.skip (by kernel_rfl) ?_
      simp only [Act.put, List.setIfInBounds_toArray, List.set_cons_zero, List.set_cons_succ]
      refine WL.skip (by kernel_rfl) ?_
      simp only [Act.put, List.setIfInBounds_toArray, List.set_cons_zero, List.set_cons_succ]
      refine WL.skip (by kernel_rfl) ?_
      simp only [Act.put, List.setIfInBounds_toArray, List.set_cons_zero, List.set_cons_succ]
      refine WL.val (by kernel_rfl) (.bool true) (by go_simp) ?_
      simp only [Act.put, List.setIfInBounds_toArray, List.set_cons_zero, List.set_cons_succ]
      refine WL.val (by kernel_rfl) (.bool true) (by go_simp) ?_
      simp only [Act.put, List.setIfInBounds_toArray, List.set_cons_zero, List.set_cons_succ]
      refine WL.nil ?_
      refine hK4 _ _ ?_
      refine wp_cond_true rfl ?_
      refine wp_seq_k fun K5 hK5 => ?_
      refine wp_region_list (WL.out ?_)
      refine WL.val (by kernel_rfl) (.int .i64 4) (by go_simp) ?_
      simp only [Act.put, List.setIfInBounds_toArray, List.set_cons_zero, List.set_cons_succ]
      refine WL.nil ?_
      refine hK5 _ _ ?_
      refine wp_ret ?_
      go_ret
      exact ⟨by rw [HR.out]; rfl, HW.out⟩
    · rw [if_neg hB1] at HR
      have hB1' : ¬ (65536 : Int) < (x.key.size : Int) := by omega
      by_cases hB2 : 65536 < x.text.size
      · rw [if_pos hB2] at HR
        have hB2' : (65536 : Int) < (x.text.size : Int) := by omega
        refine wp_seq_k fun K1 hK1 => ?_
        refine wp_region_list (WL.out ?_)
        refine WL.box (by kernel_rfl) 79 (.tmp 0) rfl (opA x) rfl ?_
        rw [hw1.out]
        simp only [Act.put, List.setIfInBounds_toArray, List.set_cons_zero, List.set_cons_succ]
        refine WL.val (by kernel_rfl) (.int .i64 0) (by go_simp) ?_
        simp only [Act.put, List.setIfInBounds_toArray, List.set_cons_zero, List.set_cons_succ]
        refine WL.nil ?_
        refine hK1 _ _ ?_
        refine wp_seq_k fun K2 hK2 => ?_
        refine wp_block ?_
        refine wp_seq_k fun K3 hK3 => ?_
        refine wp_region_list (WL.out ?_)
        refine WL.val (by kernel_rfl) (.slice va (hasI x.kind).length vc) (by go_simp) ?_
        simp only [Act.put, List.setIfInBounds_toArray, List.set_cons_zero, List.set_cons_succ]
        refine WL.val (by kernel_rfl) (.int .i64 ((hasI x.kind).length : Int)) (by go_simp) ?_
        simp only [Act.put, List.setIfInBounds_toArray, List.set_cons_zero, List.set_cons_succ]
        refine WL.val (by kernel_rfl) (.bool false) (by go_simp) ?_
        simp only [Act.put, List.setIfInBounds_toArray, List.set_cons_zero, List.set_cons_succ]
        refine WL.val (by kernel_rfl) (.bool false) (by go_simp) ?_
        simp only [Act.put, List.setIfInBounds_toArray, List.set_cons_zero, List.set_cons_succ]
        refine WL.nil ?_
        refine hK3 _ _ ?_
        refine wp_cond_false rfl ?_
        refine wp_seq_k fun K4 hK4 => ?_
        refine wp_region_list (WL.out ?_)
        refine WL.val (by kernel_rfl) (.pointer (some ⟨w.heap.size, 1, none⟩)) (by go_simp) ?_
        simp only [Act.put, List.setIfInBounds_toArray, List.set_cons_zero, List.set_cons_succ]
        refine WL.val (by kernel_rfl) (.string x.key) (by go_simp) ?_
        simp only [Act.put, List.setIfInBounds_toArray, List.set_cons_zero, List.set_cons_succ]
        refine WL.val (by kernel_rfl) (.int .i64 (x.key.size : Int)) (by go_simp) ?_
        simp only [Act.put, List.setIfInBounds_toArray, List.set_cons_zero, List.set_cons_succ]
        refine WL.val (by kernel_rfl) (.bool false) (by go_simp) ?_
        simp only [Act.put, List.setIfInBounds_toArray, List.set_cons_zero, List.set_cons_succ]
        refine WL.val (by kernel_rfl) (.bool false) (by go_simp) ?_
        simp only [Act.put, List.setIfInBounds_toArray, List.set_cons_zero, List.set_cons_succ]
        refine WL.val (by kernel_rfl) (.pointer (some ⟨w.heap.size, 2, none⟩)) (by go_simp) ?_
        simp only [Act.put, List.setIfInBounds_toArray, List.set_cons_zero, List.set_cons_succ]
        refine WL.val (by kernel_rfl) (.string x.text) (by go_simp) ?_
        simp only [Act.put, List.setIfInBounds_toArray, List.set_cons_zero, List.set_cons_succ]
        refine WL.val (by kernel_rfl) (.int .i64 (x.text.size : Int)) (by go_simp) ?_
        simp only [Act.put, List.setIfInBounds_toArray, List.set_cons_zero, List.set_cons_succ]
        refine WL.val (by kernel_rfl) (.bool true) (by go_simp) ?_
        simp only [Act.put, List.setIfInBounds_toArray, List.set_cons_zero, List.set_cons_succ]
        refine WL.val (by kernel_rfl) (.bool true) (by go_simp) ?_
        simp only [Act.put, List.setIfInBounds_toArray, List.set_cons_zero, List.set_cons_succ]
        refine WL.val (by kernel_rfl) (.bool true) (by go_simp) ?_
        simp only [Act.put, List.setIfInBounds_toArray, List.set_cons_zero, List.set_cons_succ]
        refine WL.nil ?_
        refine hK4 _ _ ?_
        refine wp_cond_true rfl ?_
        refine wp_seq_k fun K5 hK5 => ?_
        refine wp_region_list (WL.out ?_)
        refine WL.val (by kernel_rfl) (.int .i64 4) (by go_simp) ?_
        simp only [Act.put, List.setIfInBounds_toArray, List.set_cons_zero, List.set_cons_succ]
        refine WL.nil ?_
        refine hK5 _ _ ?_
        refine wp_ret ?_
        go_ret
        exact ⟨by rw [HR.out]; rfl, HW.out⟩
      · rw [if_neg hB2] at HR
        have hB2' : ¬ (65536 : Int) < (x.text.size : Int) := by omega
        cases hs : sm (wipes (hasI x.kind) { x with kind := 0 }) zeroOp with
        | false =>
          rw [if_pos hs] at HR
          have hS : (!sm (wipes (hasI x.kind) { x with kind := 0 }) zeroOp) = true := by rw [hs]; rfl
          refine wp_seq_k fun K1 hK1 => ?_
          refine wp_region_list (WL.out ?_)
          refine WL.box (by kernel_rfl) 79 (.tmp 0) rfl (opA x) rfl ?_
          rw [hw1.out]
          simp only [Act.put, List.setIfInBounds_toArray, List.set_cons_zero, List.set_cons_succ]
          refine WL.val (by kernel_rfl) (.int .i64 0) (by go_simp) ?_
          simp only [Act.put, List.setIfInBounds_toArray, List.set_cons_zero, List.set_cons_succ]
          refine WL.nil ?_
          refine hK1 _ _ ?_
          refine wp_seq_k fun K2 hK2 => ?_
          refine wp_block ?_
          refine wp_seq_k fun K3 hK3 => ?_
          refine wp_region_list (WL.out ?_)
          refine WL.val (by kernel_rfl) (.slice va (hasI x.kind).length vc) (by go_simp) ?_
          simp only [Act.put, List.setIfInBounds_toArray, List.set_cons_zero, List.set_cons_succ]
          refine WL.val (by kernel_rfl) (.int .i64 ((hasI x.kind).length : Int)) (by go_simp) ?_
          simp only [Act.put, List.setIfInBounds_toArray, List.set_cons_zero, List.set_cons_succ]
          refine WL.val (by kernel_rfl) (.bool false) (by go_simp) ?_
          simp only [Act.put, List.setIfInBounds_toArray, List.set_cons_zero, List.set_cons_succ]
          refine WL.val (by kernel_rfl) (.bool false) (by go_simp) ?_
          simp only [Act.put, List.setIfInBounds_toArray, List.set_cons_zero, List.set_cons_succ]
          refine WL.nil ?_
          refine hK3 _ _ ?_
          refine wp_cond_false rfl ?_
          refine wp_seq_k fun K4 hK4 => ?_
          refine wp_region_list (WL.out ?_)
          refine WL.val (by kernel_rfl) (.pointer (some ⟨w.heap.size, 1, none⟩)) (by go_simp) ?_
          simp only [Act.put, List.setIfInBounds_toArray, List.set_cons_zero, List.set_cons_succ]
          refine WL.val (by kernel_rfl) (.string x.key) (by go_simp) ?_
          simp only [Act.put, List.setIfInBounds_toArray, List.set_cons_zero, List.set_cons_succ]
          refine WL.val (by kernel_rfl) (.int .i64 (x.key.size : Int)) (by go_simp) ?_
          simp only [Act.put, List.setIfInBounds_toArray, List.set_cons_zero, List.set_cons_succ]
          refine WL.val (by kernel_rfl) (.bool false) (by go_simp) ?_
          simp only [Act.put, List.setIfInBounds_toArray, List.set_cons_zero, List.set_cons_succ]
          refine WL.val (by kernel_rfl) (.bool false) (by go_simp) ?_
          simp only [Act.put, List.setIfInBounds_toArray, List.set_cons_zero, List.set_cons_succ]
          refine WL.val (by kernel_rfl) (.pointer (some ⟨w.heap.size, 2, none⟩)) (by go_simp) ?_
          simp only [Act.put, List.setIfInBounds_toArray, List.set_cons_zero, List.set_cons_succ]
          refine WL.val (by kernel_rfl) (.string x.text) (by go_simp) ?_
          simp only [Act.put, List.setIfInBounds_toArray, List.set_cons_zero, List.set_cons_succ]
          refine WL.val (by kernel_rfl) (.int .i64 (x.text.size : Int)) (by go_simp) ?_
          simp only [Act.put, List.setIfInBounds_toArray, List.set_cons_zero, List.set_cons_succ]
          refine WL.val (by kernel_rfl) (.bool false) (by go_simp) ?_
          simp only [Act.put, List.setIfInBounds_toArray, List.set_cons_zero, List.set_cons_succ]
          refine WL.val (by kernel_rfl) (.bool false) (by go_simp) ?_
          simp only [Act.put, List.setIfInBounds_toArray, List.set_cons_zero, List.set_cons_succ]
          refine WL.val (by kernel_rfl) (.bool false) (by go_simp) ?_
          simp only [Act.put, List.setIfInBounds_toArray, List.set_cons_zero, List.set_cons_succ]
          refine WL.nil ?_
          refine hK4 _ _ ?_
          refine wp_cond_false rfl ?_
          refine wp_seq_k fun K5 hK5 => ?_
          refine wp_region_list (WL.out ?_)
          refine WL.row (by kernel_rfl) 79 (.tmp 3) rfl w.heap.size rfl 79 (opA x) _ HB.out Try.underlying79 rfl (Try.size79B x) ?_
          simp only [Act.put, List.setIfInBounds_toArray, List.set_cons_zero, List.set_cons_succ]
          refine WL.val (by kernel_rfl) (.slice va (hasI x.kind).length vc) (by go_simp) ?_
          simp only [Act.put, List.setIfInBounds_toArray, List.set_cons_zero, List.set_cons_succ]
          refine WL.callF (by kernel_rfl) 81 _ _ rfl Try.in81 #[.agg (opA x), .slice va (hasI x.kind).length vc] (by simp [Act.eval]) ?_
          refine (other_any x _ (hasI x.kind) w1 (HF.out.below HW.out) (hasI_lt _) (hasI_len _)).mono ?_
          rintro e w2 ⟨rfl, h2⟩
          rw [hS]
          refine ⟨_, rfl, ?_⟩
          have HB2 := Keep.mk (HB.out.below h2 HB.out.lt)
          have HW2 := Keep.mk (HW.out.trans (h2.mono HW.out.size))
          have d0 := HB2.out.c 0 (opA_0 x)
          clear h2
          simp only [Act.put, List.setIfInBounds_toArray, List.set_cons_zero, List.set_cons_succ]
          refine WL.val (by kernel_rfl) (.bool true) (by go_simp) ?_
          simp only [Act.put, List.setIfInBounds_toArray, List.set_cons_zero, List.set_cons_succ]
          refine WL.nil ?_
          refine hK5 _ _ ?_
          refine wp_cond_true rfl ?_
          refine wp_seq_k fun K6 hK6 => ?_
          refine wp_region_list (WL.out ?_)
          refine WL.val (by kernel_rfl) (.int .i64 41) (by go_simp) ?_
          simp only [Act.put, List.setIfInBounds_toArray, List.set_cons_zero, List.set_cons_succ]
          refine WL.nil ?_
          refine hK6 _ _ ?_
          refine wp_ret ?_
          go_ret
          exact ⟨by rw [HR.out]; rfl, HW2.out⟩
        | true =>
          rw [if_neg (by rw [hs]; decide)] at HR
          have hS : (!sm (wipes (hasI x.kind) { x with kind := 0 }) zeroOp) = false := by rw [hs]; rfl
          by_cases hD : cellV x.kind = 4
          · rw [if_pos hD] at HR
            cases hM : mayAt l x with
            | false =>
              rw [if_neg (by rw [hM]; decide)] at HR
              refine wp_seq_k fun K1 hK1 => ?_
              refine wp_region_list (WL.out ?_)
              refine WL.box (by kernel_rfl) 79 (.tmp 0) rfl (opA x) rfl ?_
              rw [hw1.out]
              simp only [Act.put, List.setIfInBounds_toArray, List.set_cons_zero, List.set_cons_succ]
              refine WL.val (by kernel_rfl) (.int .i64 0) (by go_simp) ?_
              simp only [Act.put, List.setIfInBounds_toArray, List.set_cons_zero, List.set_cons_succ]
              refine WL.nil ?_
              refine hK1 _ _ ?_
              refine wp_seq_k fun K2 hK2 => ?_
              refine wp_block ?_
              refine wp_seq_k fun K3 hK3 => ?_
              refine wp_region_list (WL.out ?_)
              refine WL.val (by kernel_rfl) (.slice va (hasI x.kind).length vc) (by go_simp) ?_
              simp only [Act.put, List.setIfInBounds_toArray, List.set_cons_zero, List.set_cons_succ]
              refine WL.val (by kernel_rfl) (.int .i64 ((hasI x.kind).length : Int)) (by go_simp) ?_
              simp only [Act.put, List.setIfInBounds_toArray, List.set_cons_zero, List.set_cons_succ]
              refine WL.val (by kernel_rfl) (.bool false) (by go_simp) ?_
              simp only [Act.put, List.setIfInBounds_toArray, List.set_cons_zero, List.set_cons_succ]
              refine WL.val (by kernel_rfl) (.bool false) (by go_simp) ?_
              simp only [Act.put, List.setIfInBounds_toArray, List.set_cons_zero, List.set_cons_succ]
              refine WL.nil ?_
              refine hK3 _ _ ?_
              refine wp_cond_false rfl ?_
              refine wp_seq_k fun K4 hK4 => ?_
              refine wp_region_list (WL.out ?_)
              refine WL.val (by kernel_rfl) (.pointer (some ⟨w.heap.size, 1, none⟩)) (by go_simp) ?_
              simp only [Act.put, List.setIfInBounds_toArray, List.set_cons_zero, List.set_cons_succ]
              refine WL.val (by kernel_rfl) (.string x.key) (by go_simp) ?_
              simp only [Act.put, List.setIfInBounds_toArray, List.set_cons_zero, List.set_cons_succ]
              refine WL.val (by kernel_rfl) (.int .i64 (x.key.size : Int)) (by go_simp) ?_
              simp only [Act.put, List.setIfInBounds_toArray, List.set_cons_zero, List.set_cons_succ]
              refine WL.val (by kernel_rfl) (.bool false) (by go_simp) ?_
              simp only [Act.put, List.setIfInBounds_toArray, List.set_cons_zero, List.set_cons_succ]
              refine WL.val (by kernel_rfl) (.bool false) (by go_simp) ?_
              simp only [Act.put, List.setIfInBounds_toArray, List.set_cons_zero, List.set_cons_succ]
              refine WL.val (by kernel_rfl) (.pointer (some ⟨w.heap.size, 2, none⟩)) (by go_simp) ?_
              simp only [Act.put, List.setIfInBounds_toArray, List.set_cons_zero, List.set_cons_succ]
              refine WL.val (by kernel_rfl) (.string x.text) (by go_simp) ?_
              simp only [Act.put, List.setIfInBounds_toArray, List.set_cons_zero, List.set_cons_succ]
              refine WL.val (by kernel_rfl) (.int .i64 (x.text.size : Int)) (by go_simp) ?_
              simp only [Act.put, List.setIfInBounds_toArray, List.set_cons_zero, List.set_cons_succ]
              refine WL.val (by kernel_rfl) (.bool false) (by go_simp) ?_
              simp only [Act.put, List.setIfInBounds_toArray, List.set_cons_zero, List.set_cons_succ]
              refine WL.val (by kernel_rfl) (.bool false) (by go_simp) ?_
              simp only [Act.put, List.setIfInBounds_toArray, List.set_cons_zero, List.set_cons_succ]
              refine WL.val (by kernel_rfl) (.bool false) (by go_simp) ?_
              simp only [Act.put, List.setIfInBounds_toArray, List.set_cons_zero, List.set_cons_succ]
              refine WL.nil ?_
              refine hK4 _ _ ?_
              refine wp_cond_false rfl ?_
              refine wp_seq_k fun K5 hK5 => ?_
              refine wp_region_list (WL.out ?_)
              refine WL.row (by kernel_rfl) 79 (.tmp 3) rfl w.heap.size rfl 79 (opA x) _ HB.out Try.underlying79 rfl (Try.size79B x) ?_
              simp only [Act.put, List.setIfInBounds_toArray, List.set_cons_zero, List.set_cons_succ]
              refine WL.val (by kernel_rfl) (.slice va (hasI x.kind).length vc) (by go_simp) ?_
              simp only [Act.put, List.setIfInBounds_toArray, List.set_cons_zero, List.set_cons_succ]
              refine WL.callF (by kernel_rfl) 81 _ _ rfl Try.in81 #[.agg (opA x), .slice va (hasI x.kind).length vc] (by simp [Act.eval]) ?_
              refine (other_any x _ (hasI x.kind) w1 (HF.out.below HW.out) (hasI_lt _) (hasI_len _)).mono ?_
              rintro e w2 ⟨rfl, h2⟩
              rw [hS]
              refine ⟨_, rfl, ?_⟩
              have HB2 := Keep.mk (HB.out.below h2 HB.out.lt)
              have HW2 := Keep.mk (HW.out.trans (h2.mono HW.out.size))
              have d0 := HB2.out.c 0 (opA_0 x)
              clear h2
              simp only [Act.put, List.setIfInBounds_toArray, List.set_cons_zero, List.set_cons_succ]
              refine WL.val (by kernel_rfl) (.bool false) (by go_simp) ?_
              simp only [Act.put, List.setIfInBounds_toArray, List.set_cons_zero, List.set_cons_succ]
              refine WL.nil ?_
              refine hK5 _ _ ?_
              refine wp_cond_false rfl ?_
              refine wp_seq_k fun K6 hK6 => ?_
              refine wp_region_list (WL.out ?_)
              refine WL.val (by kernel_rfl) (.pointer (some ⟨w.heap.size, 0, none⟩)) (by go_simp) ?_
              simp only [Act.put, List.setIfInBounds_toArray, List.set_cons_zero, List.set_cons_succ]
              refine WL.val (by kernel_rfl) (.int .i64 x.kind) (by go_simp) ?_
              simp only [Act.put, List.setIfInBounds_toArray, List.set_cons_zero, List.set_cons_succ]
              refine WL.callF (by kernel_rfl) 82 _ _ rfl Try.in82 #[.int .i64 x.kind] (by simp [Act.eval]) ?_
              refine (cell_any x.kind w2).mono ?_
              rintro e w3 ⟨rfl, rfl⟩
              refine ⟨_, rfl, ?_⟩
              simp only [Act.put, List.setIfInBounds_toArray, List.set_cons_zero, List.set_cons_succ]
              refine WL.val (by kernel_rfl) (.bool true) (by go_simp) ?_
              simp only [Act.put, List.setIfInBounds_toArray, List.set_cons_zero, List.set_cons_succ]
              refine WL.val (by kernel_rfl) (.bool true) (by go_simp) ?_
              simp only [Act.put, List.setIfInBounds_toArray, List.set_cons_zero, List.set_cons_succ]
              refine WL.row (by kernel_rfl) 79 (.tmp 3) rfl w.heap.size rfl 79 (opA x) _ HB2.out Try.underlying79 rfl (Try.size79B x) ?_
              simp only [Act.put, List.setIfInBounds_toArray, List.set_cons_zero, List.set_cons_succ]
              refine WL.val (by kernel_rfl) (.slice la l.length lc) (by go_simp) ?_
              simp only [Act.put, List.setIfInBounds_toArray, List.set_cons_zero, List.set_cons_succ]
              refine WL.callF (by kernel_rfl) 83 _ _ rfl Try.in83 #[.agg (opA x), .slice la l.length lc] (by simp [Act.eval]) ?_
              refine (may_any x _ l _ Hx.out (HL.out.below HW2.out) Hl.out).mono ?_
              rintro e w4 ⟨rfl, h4⟩
              rw [hM]
              refine ⟨_, rfl, ?_⟩
              simp only [Act.put, List.setIfInBounds_toArray, List.set_cons_zero, List.set_cons_succ]
              refine WL.val (by kernel_rfl) (.bool true) (by go_simp) ?_
              simp only [Act.put, List.setIfInBounds_toArray, List.set_cons_zero, List.set_cons_succ]
              refine WL.val (by kernel_rfl) (.bool true) (by go_simp) ?_
              simp only [Act.put, List.setIfInBounds_toArray, List.set_cons_zero, List.set_cons_succ]
              refine WL.val (by kernel_rfl) (.bool true) (by go_simp) ?_
              simp only [Act.put, List.setIfInBounds_toArray, List.set_cons_zero, List.set_cons_succ]
              refine WL.nil ?_
              refine hK6 _ _ ?_
              refine wp_cond_true rfl ?_
              refine wp_seq_k fun K7 hK7 => ?_
              refine wp_region_list (WL.out ?_)
              refine WL.val (by kernel_rfl) (.int .i64 42) (by go_simp) ?_
              simp only [Act.put, List.setIfInBounds_toArray, List.set_cons_zero, List.set_cons_succ]
              refine WL.nil ?_
              refine hK7 _ _ ?_
              refine wp_ret ?_
              go_ret
              exact ⟨by rw [HR.out]; rfl, HW2.out.trans (h4.mono HW2.out.size)⟩
            | true =>
              rw [if_pos hM] at HR
              refine wp_seq_k fun K1 hK1 => ?_
              refine wp_region_list (WL.out ?_)
              refine WL.box (by kernel_rfl) 79 (.tmp 0) rfl (opA x) rfl ?_
              rw [hw1.out]
              simp only [Act.put, List.setIfInBounds_toArray, List.set_cons_zero, List.set_cons_succ]
              refine WL.val (by kernel_rfl) (.int .i64 0) (by go_simp) ?_
              simp only [Act.put, List.setIfInBounds_toArray, List.set_cons_zero, List.set_cons_succ]
              refine WL.nil ?_
              refine hK1 _ _ ?_
              refine wp_seq_k fun K2 hK2 => ?_
              refine wp_block ?_
              refine wp_seq_k fun K3 hK3 => ?_
              refine wp_region_list (WL.out ?_)
              refine WL.val (by kernel_rfl) (.slice va (hasI x.kind).length vc) (by go_simp) ?_
              simp only [Act.put, List.setIfInBounds_toArray, List.set_cons_zero, List.set_cons_succ]
              refine WL.val (by kernel_rfl) (.int .i64 ((hasI x.kind).length : Int)) (by go_simp) ?_
              simp only [Act.put, List.setIfInBounds_toArray, List.set_cons_zero, List.set_cons_succ]
              refine WL.val (by kernel_rfl) (.bool false) (by go_simp) ?_
              simp only [Act.put, List.setIfInBounds_toArray, List.set_cons_zero, List.set_cons_succ]
              refine WL.val (by kernel_rfl) (.bool false) (by go_simp) ?_
              simp only [Act.put, List.setIfInBounds_toArray, List.set_cons_zero, List.set_cons_succ]
              refine WL.nil ?_
              refine hK3 _ _ ?_
              refine wp_cond_false rfl ?_
              refine wp_seq_k fun K4 hK4 => ?_
              refine wp_region_list (WL.out ?_)
              refine WL.val (by kernel_rfl) (.pointer (some ⟨w.heap.size, 1, none⟩)) (by go_simp) ?_
              simp only [Act.put, List.setIfInBounds_toArray, List.set_cons_zero, List.set_cons_succ]
              refine WL.val (by kernel_rfl) (.string x.key) (by go_simp) ?_
              simp only [Act.put, List.setIfInBounds_toArray, List.set_cons_zero, List.set_cons_succ]
              refine WL.val (by kernel_rfl) (.int .i64 (x.key.size : Int)) (by go_simp) ?_
              simp only [Act.put, List.setIfInBounds_toArray, List.set_cons_zero, List.set_cons_succ]
              refine WL.val (by kernel_rfl) (.bool false) (by go_simp) ?_
              simp only [Act.put, List.setIfInBounds_toArray, List.set_cons_zero, List.set_cons_succ]
              refine WL.val (by kernel_rfl) (.bool false) (by go_simp) ?_
              simp only [Act.put, List.setIfInBounds_toArray, List.set_cons_zero, List.set_cons_succ]
              refine WL.val (by kernel_rfl) (.pointer (some ⟨w.heap.size, 2, none⟩)) (by go_simp) ?_
              simp only [Act.put, List.setIfInBounds_toArray, List.set_cons_zero, List.set_cons_succ]
              refine WL.val (by kernel_rfl) (.string x.text) (by go_simp) ?_
              simp only [Act.put, List.setIfInBounds_toArray, List.set_cons_zero, List.set_cons_succ]
              refine WL.val (by kernel_rfl) (.int .i64 (x.text.size : Int)) (by go_simp) ?_
              simp only [Act.put, List.setIfInBounds_toArray, List.set_cons_zero, List.set_cons_succ]
              refine WL.val (by kernel_rfl) (.bool false) (by go_simp) ?_
              simp only [Act.put, List.setIfInBounds_toArray, List.set_cons_zero, List.set_cons_succ]
              refine WL.val (by kernel_rfl) (.bool false) (by go_simp) ?_
              simp only [Act.put, List.setIfInBounds_toArray, List.set_cons_zero, List.set_cons_succ]
              refine WL.val (by kernel_rfl) (.bool false) (by go_simp) ?_
              simp only [Act.put, List.setIfInBounds_toArray, List.set_cons_zero, List.set_cons_succ]
              refine WL.nil ?_
              refine hK4 _ _ ?_
              refine wp_cond_false rfl ?_
              refine wp_seq_k fun K5 hK5 => ?_
              refine wp_region_list (WL.out ?_)
              refine WL.row (by kernel_rfl) 79 (.tmp 3) rfl w.heap.size rfl 79 (opA x) _ HB.out Try.underlying79 rfl (Try.size79B x) ?_
              simp only [Act.put, List.setIfInBounds_toArray, List.set_cons_zero, List.set_cons_succ]
              refine WL.val (by kernel_rfl) (.slice va (hasI x.kind).length vc) (by go_simp) ?_
              simp only [Act.put, List.setIfInBounds_toArray, List.set_cons_zero, List.set_cons_succ]
              refine WL.callF (by kernel_rfl) 81 _ _ rfl Try.in81 #[.agg (opA x), .slice va (hasI x.kind).length vc] (by simp [Act.eval]) ?_
              refine (other_any x _ (hasI x.kind) w1 (HF.out.below HW.out) (hasI_lt _) (hasI_len _)).mono ?_
              rintro e w2 ⟨rfl, h2⟩
              rw [hS]
              refine ⟨_, rfl, ?_⟩
              have HB2 := Keep.mk (HB.out.below h2 HB.out.lt)
              have HW2 := Keep.mk (HW.out.trans (h2.mono HW.out.size))
              have d0 := HB2.out.c 0 (opA_0 x)
              clear h2
              simp only [Act.put, List.setIfInBounds_toArray, List.set_cons_zero, List.set_cons_succ]
              refine WL.val (by kernel_rfl) (.bool false) (by go_simp) ?_
              simp only [Act.put, List.setIfInBounds_toArray, List.set_cons_zero, List.set_cons_succ]
              refine WL.nil ?_
              refine hK5 _ _ ?_
              refine wp_cond_false rfl ?_
              refine wp_seq_k fun K6 hK6 => ?_
              refine wp_region_list (WL.out ?_)
              refine WL.val (by kernel_rfl) (.pointer (some ⟨w.heap.size, 0, none⟩)) (by go_simp) ?_
              simp only [Act.put, List.setIfInBounds_toArray, List.set_cons_zero, List.set_cons_succ]
              refine WL.val (by kernel_rfl) (.int .i64 x.kind) (by go_simp) ?_
              simp only [Act.put, List.setIfInBounds_toArray, List.set_cons_zero, List.set_cons_succ]
              refine WL.callF (by kernel_rfl) 82 _ _ rfl Try.in82 #[.int .i64 x.kind] (by simp [Act.eval]) ?_
              refine (cell_any x.kind w2).mono ?_
              rintro e w3 ⟨rfl, rfl⟩
              refine ⟨_, rfl, ?_⟩
              simp only [Act.put, List.setIfInBounds_toArray, List.set_cons_zero, List.set_cons_succ]
              refine WL.val (by kernel_rfl) (.bool true) (by go_simp) ?_
              simp only [Act.put, List.setIfInBounds_toArray, List.set_cons_zero, List.set_cons_succ]
              refine WL.val (by kernel_rfl) (.bool true) (by go_simp) ?_
              simp only [Act.put, List.setIfInBounds_toArray, List.set_cons_zero, List.set_cons_succ]
              refine WL.row (by kernel_rfl) 79 (.tmp 3) rfl w.heap.size rfl 79 (opA x) _ HB2.out Try.underlying79 rfl (Try.size79B x) ?_
              simp only [Act.put, List.setIfInBounds_toArray, List.set_cons_zero, List.set_cons_succ]
              refine WL.val (by kernel_rfl) (.slice la l.length lc) (by go_simp) ?_
              simp only [Act.put, List.setIfInBounds_toArray, List.set_cons_zero, List.set_cons_succ]
              refine WL.callF (by kernel_rfl) 83 _ _ rfl Try.in83 #[.agg (opA x), .slice la l.length lc] (by simp [Act.eval]) ?_
              refine (may_any x _ l _ Hx.out (HL.out.below HW2.out) Hl.out).mono ?_
              rintro e w4 ⟨rfl, h4⟩
              rw [hM]
              refine ⟨_, rfl, ?_⟩
              simp only [Act.put, List.setIfInBounds_toArray, List.set_cons_zero, List.set_cons_succ]
              refine WL.val (by kernel_rfl) (.bool false) (by go_simp) ?_
              simp only [Act.put, List.setIfInBounds_toArray, List.set_cons_zero, List.set_cons_succ]
              refine WL.val (by kernel_rfl) (.bool false) (by go_simp) ?_
              simp only [Act.put, List.setIfInBounds_toArray, List.set_cons_zero, List.set_cons_succ]
              refine WL.val (by kernel_rfl) (.bool false) (by go_simp) ?_
              simp only [Act.put, List.setIfInBounds_toArray, List.set_cons_zero, List.set_cons_succ]
              refine WL.nil ?_
              refine hK6 _ _ ?_
              refine wp_cond_false rfl ?_
              refine wp_skip ?_
              refine hK2 _ _ ?_
              refine wp_seq_k fun K7 hK7 => ?_
              refine wp_region_list (WL.out ?_)
              refine WL.val (by kernel_rfl) (.int .i64 0) (by go_simp) ?_
              simp only [Act.put, List.setIfInBounds_toArray, List.set_cons_zero, List.set_cons_succ]
              refine WL.nil ?_
              refine hK7 _ _ ?_
              refine wp_ret ?_
              go_ret
              exact ⟨by rw [HR.out]; rfl, HW2.out.trans (h4.mono HW2.out.size)⟩
          · rw [if_neg hD] at HR
            refine wp_seq_k fun K1 hK1 => ?_
            refine wp_region_list (WL.out ?_)
            refine WL.box (by kernel_rfl) 79 (.tmp 0) rfl (opA x) rfl ?_
            rw [hw1.out]
            simp only [Act.put, List.setIfInBounds_toArray, List.set_cons_zero, List.set_cons_succ]
            refine WL.val (by kernel_rfl) (.int .i64 0) (by go_simp) ?_
            simp only [Act.put, List.setIfInBounds_toArray, List.set_cons_zero, List.set_cons_succ]
            refine WL.nil ?_
            refine hK1 _ _ ?_
            refine wp_seq_k fun K2 hK2 => ?_
            refine wp_block ?_
            refine wp_seq_k fun K3 hK3 => ?_
            refine wp_region_list (WL.out ?_)
            refine WL.val (by kernel_rfl) (.slice va (hasI x.kind).length vc) (by go_simp) ?_
            simp only [Act.put, List.setIfInBounds_toArray, List.set_cons_zero, List.set_cons_succ]
            refine WL.val (by kernel_rfl) (.int .i64 ((hasI x.kind).length : Int)) (by go_simp) ?_
            simp only [Act.put, List.setIfInBounds_toArray, List.set_cons_zero, List.set_cons_succ]
            refine WL.val (by kernel_rfl) (.bool false) (by go_simp) ?_
            simp only [Act.put, List.setIfInBounds_toArray, List.set_cons_zero, List.set_cons_succ]
            refine WL.val (by kernel_rfl) (.bool false) (by go_simp) ?_
            simp only [Act.put, List.setIfInBounds_toArray, List.set_cons_zero, List.set_cons_succ]
            refine WL.nil ?_
            refine hK3 _ _ ?_
            refine wp_cond_false rfl ?_
            refine wp_seq_k fun K4 hK4 => ?_
            refine wp_region_list (WL.out ?_)
            refine WL.val (by kernel_rfl) (.pointer (some ⟨w.heap.size, 1, none⟩)) (by go_simp) ?_
            simp only [Act.put, List.setIfInBounds_toArray, List.set_cons_zero, List.set_cons_succ]
            refine WL.val (by kernel_rfl) (.string x.key) (by go_simp) ?_
            simp only [Act.put, List.setIfInBounds_toArray, List.set_cons_zero, List.set_cons_succ]
            refine WL.val (by kernel_rfl) (.int .i64 (x.key.size : Int)) (by go_simp) ?_
            simp only [Act.put, List.setIfInBounds_toArray, List.set_cons_zero, List.set_cons_succ]
            refine WL.val (by kernel_rfl) (.bool false) (by go_simp) ?_
            simp only [Act.put, List.setIfInBounds_toArray, List.set_cons_zero, List.set_cons_succ]
            refine WL.val (by kernel_rfl) (.bool false) (by go_simp) ?_
            simp only [Act.put, List.setIfInBounds_toArray, List.set_cons_zero, List.set_cons_succ]
            refine WL.val (by kernel_rfl) (.pointer (some ⟨w.heap.size, 2, none⟩)) (by go_simp) ?_
            simp only [Act.put, List.setIfInBounds_toArray, List.set_cons_zero, List.set_cons_succ]
            refine WL.val (by kernel_rfl) (.string x.text) (by go_simp) ?_
            simp only [Act.put, List.setIfInBounds_toArray, List.set_cons_zero, List.set_cons_succ]
            refine WL.val (by kernel_rfl) (.int .i64 (x.text.size : Int)) (by go_simp) ?_
            simp only [Act.put, List.setIfInBounds_toArray, List.set_cons_zero, List.set_cons_succ]
            refine WL.val (by kernel_rfl) (.bool false) (by go_simp) ?_
            simp only [Act.put, List.setIfInBounds_toArray, List.set_cons_zero, List.set_cons_succ]
            refine WL.val (by kernel_rfl) (.bool false) (by go_simp) ?_
            simp only [Act.put, List.setIfInBounds_toArray, List.set_cons_zero, List.set_cons_succ]
            refine WL.val (by kernel_rfl) (.bool false) (by go_simp) ?_
            simp only [Act.put, List.setIfInBounds_toArray, List.set_cons_zero, List.set_cons_succ]
            refine WL.nil ?_
            refine hK4 _ _ ?_
            refine wp_cond_false rfl ?_
            refine wp_seq_k fun K5 hK5 => ?_
            refine wp_region_list (WL.out ?_)
            refine WL.row (by kernel_rfl) 79 (.tmp 3) rfl w.heap.size rfl 79 (opA x) _ HB.out Try.underlying79 rfl (Try.size79B x) ?_
            simp only [Act.put, List.setIfInBounds_toArray, List.set_cons_zero, List.set_cons_succ]
            refine WL.val (by kernel_rfl) (.slice va (hasI x.kind).length vc) (by go_simp) ?_
            simp only [Act.put, List.setIfInBounds_toArray, List.set_cons_zero, List.set_cons_succ]
            refine WL.callF (by kernel_rfl) 81 _ _ rfl Try.in81 #[.agg (opA x), .slice va (hasI x.kind).length vc] (by simp [Act.eval]) ?_
            refine (other_any x _ (hasI x.kind) w1 (HF.out.below HW.out) (hasI_lt _) (hasI_len _)).mono ?_
            rintro e w2 ⟨rfl, h2⟩
            rw [hS]
            refine ⟨_, rfl, ?_⟩
            have HB2 := Keep.mk (HB.out.below h2 HB.out.lt)
            have HW2 := Keep.mk (HW.out.trans (h2.mono HW.out.size))
            have d0 := HB2.out.c 0 (opA_0 x)
            clear h2
            simp only [Act.put, List.setIfInBounds_toArray, List.set_cons_zero, List.set_cons_succ]
            refine WL.val (by kernel_rfl) (.bool false) (by go_simp) ?_
            simp only [Act.put, List.setIfInBounds_toArray, List.set_cons_zero, List.set_cons_succ]
            refine WL.nil ?_
            refine hK5 _ _ ?_
            refine wp_cond_false rfl ?_
            refine wp_seq_k fun K6 hK6 => ?_
            refine wp_region_list (WL.out ?_)
            refine WL.val (by kernel_rfl) (.pointer (some ⟨w.heap.size, 0, none⟩)) (by go_simp) ?_
            simp only [Act.put, List.setIfInBounds_toArray, List.set_cons_zero, List.set_cons_succ]
            refine WL.val (by kernel_rfl) (.int .i64 x.kind) (by go_simp) ?_
            simp only [Act.put, List.setIfInBounds_toArray, List.set_cons_zero, List.set_cons_succ]
            refine WL.callF (by kernel_rfl) 82 _ _ rfl Try.in82 #[.int .i64 x.kind] (by simp [Act.eval]) ?_
            refine (cell_any x.kind w2).mono ?_
            rintro e w3 ⟨rfl, rfl⟩
            refine ⟨_, rfl, ?_⟩
            simp only [Act.put, List.setIfInBounds_toArray, List.set_cons_zero, List.set_cons_succ]
            refine WL.val (by kernel_rfl) (.bool false) (by go_simp) ?_
            simp only [Act.put, List.setIfInBounds_toArray, List.set_cons_zero, List.set_cons_succ]
            refine WL.val (by kernel_rfl) (.bool false) (by go_simp) ?_
            simp only [Act.put, List.setIfInBounds_toArray, List.set_cons_zero, List.set_cons_succ]
            refine WL.skip (by kernel_rfl) ?_
            simp only [Act.put, List.setIfInBounds_toArray, List.set_cons_zero, List.set_cons_succ]
            refine WL.skip (by kernel_rfl) ?_
            simp only [Act.put, List.setIfInBounds_toArray, List.set_cons_zero, List.set_cons_succ]
            refine WL.skip (by kernel_rfl) ?_
            simp only [Act.put, List.setIfInBounds_toArray, List.set_cons_zero, List.set_cons_succ]
            refine WL.skip (by kernel_rfl) ?_
            simp only [Act.put, List.setIfInBounds_toArray, List.set_cons_zero, List.set_cons_succ]
            refine WL.val (by kernel_rfl) (.bool false) (by go_simp) ?_
            simp only [Act.put, List.setIfInBounds_toArray, List.set_cons_zero, List.set_cons_succ]
            refine WL.val (by kernel_rfl) (.bool false) (by go_simp) ?_
            simp only [Act.put, List.setIfInBounds_toArray, List.set_cons_zero, List.set_cons_succ]
            refine WL.nil ?_
            refine hK6 _ _ ?_
            refine wp_cond_false rfl ?_
            refine wp_skip ?_
            refine hK2 _ _ ?_
            refine wp_seq_k fun K7 hK7 => ?_
            refine wp_region_list (WL.out ?_)
            refine WL.val (by kernel_rfl) (.int .i64 0) (by go_simp) ?_
            simp only [Act.put, List.setIfInBounds_toArray, List.set_cons_zero, List.set_cons_succ]
            refine WL.nil ?_
            refine hK7 _ _ ?_
            refine wp_ret ?_
            go_ret
            exact ⟨by rw [HR.out]; rfl, HW2.out⟩

def chkF : List OpV → List OpV → Int × Nat
  | _, [] => (0, 0)
  | l, x :: r => if wrongV l x = 0 then chkF (l ++ [x]) r else (wrongV l x, l.length)
def chk (l : List OpV) : Int × Nat := if 1024 < l.length then (3, 0) else chkF [] l
theorem wp_callF {P : Program} {Q : Exit → Act → World → Prop} {o : Oper} {a : Act} {w : World} {K : Act → World → Prop} (f : FuncId) (args : Array Operand) (ts : Array TypeId) (ho : o.op = .call { callee := .value (.func f), args := args, argTypes := ts })
    (hf : ∀ (w : World) (vs : Array Value), (callFunc f vs).run P w = .ok (.enter f vs) w)
    (vs : Array Value) (hvs : args.map a.eval = vs)
    (R : Value → World → Prop) (hc : Calls P f vs w fun e w' => ∃ v, e = .returned v ∧ R v w')
    (h : ∀ v w', R v w' → K (a.put o.dst v) w') : o.wp P a w K Q := by
  unfold Oper.wp
  rw [run_callF a o f args ts ho hf w, Oper.upon_enter, hvs]
  refine hc.mono ?_
  rintro e w' ⟨v, rfl, hr⟩
  exact h v w' hr
theorem TabAt.look2 {w : World} {m : Nat} (h : TabAt w m) (k : Int) : ∃ v, FieldsAt w v (hasI k) ∧ ∀ wx, Below w.heap.size w wx →
    (Instr.lookup 97 (.map (some m)) (.int .i64 k) false).run Try.prog wx = .ok v wx ∧ (Instr.lookup 97 (.map (some m)) (.int .i64 k) true).run Try.prog wx = .ok (.tuple #[v, .bool (!(hasI k).isEmpty)]) wx := by
  obtain ⟨V, h1, h2⟩ := h.ex
  have h3 := fun wx (hb : Below w.heap.size w wx) => run_look wx m _ k (h1.grown (Grown.below (S := fun _ => False) hb) (fun h => h))
  simp only [find_tab] at h3
  by_cases hk : k ∈ ([1, 2, 3, 4, 5, 6, 7, 8, 9] : List Int)
  · refine ⟨V k, h2 k hk, fun wx hb => ⟨by rw [h3 wx hb, if_pos hk]; rfl, ?_⟩⟩
    have : (hasI k).isEmpty = false := by simpa using hasI_some k hk
    rw [h3 wx hb, if_pos hk, this]; rfl
  · refine ⟨.slice none 0 0, .inl ⟨rfl, hasI_none k hk⟩, fun wx hb => ⟨by rw [h3 wx hb, if_neg hk]; rfl, ?_⟩⟩
    rw [h3 wx hb, if_neg hk, hasI_none k hk]; rfl
theorem Try.elem25 : Try.prog.elem 25 = 79 := by kernel_rfl
theorem Try.sizeOf79 (w : World) : (sizeOf 79).run Try.prog w = .ok 37 w := by kernel_rfl
theorem sl_run23 (base : Option Addr) (n cap a : Nat) (ha : a ≤ cap) (wx : World) : (Instr.sliceAt 25 (.slice base n cap) none (some (.int .i64 (a : Int))) none).run Try.prog wx = .ok (.slice base a cap) wx := by
  have hu : Try.prog.underlying 25 = some (.slice (Try.prog.elem 25)) := by rw [Try.elem25]; exact Try.underlying25
  have h1 := run_slice_h (P := Try.prog) (w := wx) 25 base n cap hu .i64 (a : Int) (by omega) (by omega)
  have h2 := run_sliceAt_slice (P := Try.prog) (w := wx) 25 (.slice base n cap) none (some (.int .i64 (a : Int))) none hu
  rw [Try.elem25] at h1
  have h3 : sliced base 0 (a : Int).toNat cap 37 = .slice base a cap := by
    have h4 : (if cap = 0 then base else base.map (·.add (0 * 37))) = base := by
      split
      · rfl
      · cases base <;> rfl
    unfold sliced
    rw [h4, Int.toNat_natCast, Nat.sub_zero, Nat.sub_zero]
  rw [h2, h1]
  refine (congrArg (fun z => Result.andThen z fun s w => Result.ok (sliced base 0 (a : Int).toNat cap s) w) (Try.sizeOf79 wx)).trans ?_
  show Result.ok (sliced base 0 (a : Int).toNat cap 37) wx = _
  rw [h3]
theorem OpsAt.take {w : World} {a : Option Addr} {n c : Nat} {l : List OpV} (h : OpsAt w (.slice a n c) l) {t : Nat} (ht : t ≤ l.length) : t ≤ c ∧ OpsAt w (.slice a t c) (l.take t) := by
  rcases h with ⟨_, _, e, rfl⟩ | ⟨b, off, cap, e, h2, h3⟩
  · obtain rfl : t = 0 := by simpa using ht
    exact ⟨Nat.zero_le _, .inl ⟨_, _, rfl, rfl⟩⟩
  · injection e with e1 e2 e3
    subst e1 e3
    refine ⟨by omega, .inr ⟨b, off, c, ?_, ?_, fun i x hx => h3 i x ?_⟩⟩
    · rw [List.length_take, Nat.min_eq_left ht]
    · rw [List.length_take]; omega
    · rw [List.getElem?_take] at hx; split at hx
      · exact hx
      · cases hx
theorem chkF_step (l : List OpV) (t : Nat) (ht : t < l.length) : chkF (l.take t) (l.drop t) = if wrongV (l.take t) (l.getD t zeroOp) = 0 then chkF (l.take (t + 1)) (l.drop (t + 1)) else (wrongV (l.take t) (l.getD t zeroOp), t) := by
  rw [List.drop_eq_getElem_cons ht, chkF, List.take_succ_eq_append_getElem ht, List.length_take, Nat.min_eq_left (by omega)]
  rw [show l.getD t zeroOp = l[t] by simp [List.getD_eq_getElem?_getD, ht]]
set_option maxRecDepth 8000 in
set_option maxHeartbeats 1000000 in
theorem check_any (v : Value) (l : List OpV) (w : World) (hl : OpsAt w v l) (hok : ∀ x ∈ l, OpOk x) (hb : l.length ≤ 4398046511104) :
    Calls Try.prog 30 #[v] w fun e w' => e = .returned (.tuple #[.int .i64 (chk l).1, .int .i64 ((chk l).2 : Int)]) ∧ Below w.heap.size w w' := by
  obtain ⟨va, vc, rfl⟩ := hl.form
  have HL := Keep.mk hl
  have Hok := Keep.mk hok
  have Hlb := Keep.mk hb
  have hb' : (l.length : Int) ≤ 9223372036854775807 := by omega
  obtain ⟨R, hR⟩ : ∃ R, R = chk l := ⟨_, rfl⟩
  rw [← hR]
  unfold chk at hR
  have HR := Keep.mk hR
  clear hl hok hb hR
  go_enter Try.func30, Try.ntmps30
  by_cases hM : 1024 < l.length
  · have hM' : (1024 : Int) < (l.length : Int) := by omega
    rw [if_pos hM] at HR
    refine wp_seq_k fun K1 hK1 => ?_
    refine wp_region_list (WL.out ?_)
    refine WL.val (by kernel_rfl) (.int .i64 0) (by go_simp) ?_
    simp only [Act.put, List.setIfInBounds_toArray, List.set_cons_zero, List.set_cons_succ]
    refine WL.val (by kernel_rfl) (.int .i64 0) (by go_simp) ?_
    simp only [Act.put, List.setIfInBounds_toArray, List.set_cons_zero, List.set_cons_succ]
    refine WL.nil ?_
    refine hK1 _ _ ?_
    refine wp_seq_k fun K2 hK2 => ?_
    refine wp_seq_k fun K3 hK3 => ?_
    refine wp_region_list (WL.out ?_)
    refine WL.val (by kernel_rfl) (.slice va l.length vc) (by go_simp) ?_
    simp only [Act.put, List.setIfInBounds_toArray, List.set_cons_zero, List.set_cons_succ]
    refine WL.val (by kernel_rfl) (.int .i64 (l.length : Int)) (by go_simp) ?_
    simp only [Act.put, List.setIfInBounds_toArray, List.set_cons_zero, List.set_cons_succ]
    refine WL.val (by kernel_rfl) (.bool true) (by go_simp) ?_
    simp only [Act.put, List.setIfInBounds_toArray, List.set_cons_zero, List.set_cons_succ]
    refine WL.nil ?_
    refine hK3 _ _ ?_
    refine wp_cond_true rfl ?_
    refine wp_seq_k fun K4 hK4 => ?_
    refine wp_region_list (WL.out ?_)
    refine WL.val (by kernel_rfl) (.int .i64 3) (by go_simp) ?_
    simp only [Act.put, List.setIfInBounds_toArray, List.set_cons_zero, List.set_cons_succ]
    refine WL.val (by kernel_rfl) (.int .i64 0) (by go_simp) ?_
    simp only [Act.put, List.setIfInBounds_toArray, List.set_cons_zero, List.set_cons_succ]
    refine WL.nil ?_
    refine hK4 _ _ ?_
    refine wp_ret ?_
    go_ret2
    exact ⟨by rw [HR.out]; rfl, Below.refl _ _⟩
  · have hM' : ¬ (1024 : Int) < (l.length : Int) := by omega
    rw [if_neg hM] at HR
    refine wp_seq_k fun K1 hK1 => ?_
    refine wp_region_list (WL.out ?_)
    refine WL.val (by kernel_rfl) (.int .i64 0) (by go_simp) ?_
    simp only [Act.put, List.setIfInBounds_toArray, List.set_cons_zero, List.set_cons_succ]
    refine WL.val (by kernel_rfl) (.int .i64 0) (by go_simp) ?_
    simp only [Act.put, List.setIfInBounds_toArray, List.set_cons_zero, List.set_cons_succ]
    refine WL.nil ?_
    refine hK1 _ _ ?_
    refine wp_seq_k fun K2 hK2 => ?_
    refine wp_seq_k fun K3 hK3 => ?_
    refine wp_region_list (WL.out ?_)
    refine WL.val (by kernel_rfl) (.slice va l.length vc) (by go_simp) ?_
    simp only [Act.put, List.setIfInBounds_toArray, List.set_cons_zero, List.set_cons_succ]
    refine WL.val (by kernel_rfl) (.int .i64 (l.length : Int)) (by go_simp) ?_
    simp only [Act.put, List.setIfInBounds_toArray, List.set_cons_zero, List.set_cons_succ]
    refine WL.val (by kernel_rfl) (.bool false) (by go_simp) ?_
    simp only [Act.put, List.setIfInBounds_toArray, List.set_cons_zero, List.set_cons_succ]
    refine WL.nil ?_
    refine hK3 _ _ ?_
    refine wp_cond_false rfl ?_
    refine wp_skip ?_
    refine hK2 _ _ ?_
    refine wp_seq_k fun K4 hK4 => ?_
    refine wp_region_list (WL.out ?_)
    refine WL.callF (by kernel_rfl) 53 _ _ rfl Try.in53 #[] (by simp) ?_
    refine (tab_any w).mono ?_
    rintro e w1 ⟨m, rfl, hT1, hm1, hB1⟩
    refine ⟨_, rfl, ?_⟩
    have hL1 := HL.out.below hB1
    simp only [Act.put, List.setIfInBounds_toArray, List.set_cons_zero, List.set_cons_succ]
    refine WL.val (by kernel_rfl) (.map (some m)) (by go_simp) ?_
    simp only [Act.put, List.setIfInBounds_toArray, List.set_cons_zero, List.set_cons_succ]
    refine WL.nil ?_
    refine hK4 _ _ ?_
    refine wp_seq_k fun K5 hK5 => ?_
    refine wp_seq_k fun K6 hK6 => ?_
    refine wp_region_list (WL.out ?_)
    refine WL.val (by kernel_rfl) (.slice va l.length vc) (by go_simp) ?_
    simp only [Act.put, List.setIfInBounds_toArray, List.set_cons_zero, List.set_cons_succ]
    refine WL.val (by kernel_rfl) (.int .i64 (l.length : Int)) (by go_simp) ?_
    simp only [Act.put, List.setIfInBounds_toArray, List.set_cons_zero, List.set_cons_succ]
    refine WL.val (by kernel_rfl) (.int .i64 0) (by go_simp) ?_
    simp only [Act.put, List.setIfInBounds_toArray, List.set_cons_zero, List.set_cons_succ]
    refine WL.nil ?_
    refine hK6 _ _ ?_
    refine wp_block ?_
    refine wp_loop (fun a wr => ∃ (t : Nat) (u2 u3 u5 u6 u7 u15 u16 u17 u18 u19 u20 u21 u22 u23 u24 u25 u26 u27 u28 u29 u30 u31 u32 : Value), a = { tmps := #[.slice va l.length vc, undef, u2, u3, .map (some m), u5, u6, u7, .slice va l.length vc, .int .i64 (l.length : Int), .bool false, .map (some m), .slice va l.length vc, .int .i64 (l.length : Int), .int .i64 (t : Int), u15, u16, u17, u18, u19, u20, u21, u22, u23, u24, u25, u26, u27, u28, u29, u30, u31, u32], defers := [] } ∧ t ≤ l.length ∧ chkF [] l = chkF (l.take t) (l.drop t) ∧ TabAt wr m ∧ OpsAt wr (.slice va l.length vc) l ∧ Below w.heap.size w wr) (fun a _ => l.length - (intOf (a.tmps.getD 14 undef)).toNat) ⟨0, .int .i64 0, .int .i64 0, undef, undef, undef, undef, undef, undef, undef, undef, undef, undef, undef, undef, undef, undef, undef, undef, undef, undef, undef, undef, undef, rfl, by omega, rfl, hT1, hL1, hB1⟩ ?_
    rintro a wr ⟨t, u2, u3, u5, u6, u7, u15, u16, u17, u18, u19, u20, u21, u22, u23, u24, u25, u26, u27, u28, u29, u30, u31, u32, rfl, ht, hC, hT, hL, hB⟩
    by_cases htl : t < l.length
    · have htl' : (t : Int) < (l.length : Int) := by omega
      obtain ⟨gL, ofL, hva, hr⟩ := hL.at htl
      have hst := chkF_step l t htl
      have htk := hL.take (Nat.le_of_lt htl)
      have hmem : l.getD t zeroOp ∈ l := by simp [List.getD_eq_getElem?_getD, htl]
      have Hx := Keep.mk (Hok.out _ hmem)
      generalize l.getD t zeroOp = x at *
      have hwr1 : IntKind.i64.wrap ((t : Int) + 1) = (t : Int) + 1 := by rw [IntKind.wrap_i64]; have := Hlb.out; omega
      have HLl := Keep.mk hL
      have HBl := Keep.mk hB
      have HTl := Keep.mk hT
      have Hst := Keep.mk hst
      have Htk := Keep.mk htk
      clear hL hB hT hst htk hmem
      by_cases hW : wrongV (l.take t) x = 0
      · refine wp_seq_k fun K7 hK7 => ?_
        refine wp_region_list (WL.out ?_)
        refine WL.val (by kernel_rfl) (.bool true) (by go_simp) ?_
        simp only [Act.put, List.setIfInBounds_toArray, List.set_cons_zero, List.set_cons_succ]
        refine WL.nil ?_
        refine hK7 _ _ ?_
        refine wp_seq_k fun K8 hK8 => ?_
        refine wp_cond_true rfl ?_
        refine wp_skip ?_
        refine hK8 _ _ ?_
        refine wp_seq_k fun K9 hK9 => ?_
        refine wp_block ?_
        refine wp_seq_k fun K10 hK10 => ?_
        refine wp_region_list (WL.out ?_)
        refine WL.val (by kernel_rfl) (.int .i64 (t : Int)) (by go_simp) ?_
        simp only [Act.put, List.setIfInBounds_toArray, List.set_cons_zero, List.set_cons_succ]
        refine WL.val (by kernel_rfl) (.pointer (some ⟨gL, ofL + t * 37, none⟩)) (by go_simp) ?_
        simp only [Act.put, List.setIfInBounds_toArray, List.set_cons_zero, List.set_cons_succ]
        refine WL.mid (by kernel_rfl) 79 (.tmp 17) rfl gL (ofL + t * 37) rfl (opL x) _ hr Try.underlying79 rfl (Try.size79L x) ?_
        rw [rng_load]
        simp only [Act.put, List.setIfInBounds_toArray, List.set_cons_zero, List.set_cons_succ]
        refine WL.new (by kernel_rfl) 79 rfl _ Try.new79 ?_
        simp only [Act.put, List.setIfInBounds_toArray, List.set_cons_zero, List.set_cons_succ]
        refine WL.val (by kernel_rfl) (.int .i64 (t : Int)) (by go_simp) ?_
        simp only [Act.put, List.setIfInBounds_toArray, List.set_cons_zero, List.set_cons_succ]
        refine WL.storeR (by kernel_rfl) 79 (.tmp 6) (.tmp 18) rfl wr.heap.size (opA x) rfl rfl 79 (opA zeroOp) (Blk.new wr 79 _) (Try.size79B x) (opA_sizes _ _) (opA_one x) ?_
        have HX := Keep.mk ((Blk.new wr 79 (opA zeroOp)).setRow (opA x))
        have HG : Keep (Below wr.heap.size wr ((wr.alloc (.cells (opA zeroOp) 79)).setRow wr.heap.size (opA x))) := ⟨below_setRow (below_new wr _) (Nat.le_refl _) _⟩
        generalize (wr.alloc (.cells (opA zeroOp) 79)).setRow wr.heap.size (opA x) = wq at *
        obtain ⟨vF, hvF, hlk⟩ := (HTl.out.below HG.out).look2 x.kind
        have HvF := Keep.mk hvF
        have HS0 : Keep (∀ wx, Below wq.heap.size wq wx → wx.rangeAt wr.heap.size 0 (opL x) ∧ wx.cell? ⟨wr.heap.size, 0, none⟩ = some (.int .i64 x.kind) ∧ (Instr.lookup 97 (.map (some m)) (.int .i64 x.kind) false).run Try.prog wx = .ok vF wx) := ⟨fun wx hb => ⟨blk_range (HX.out.below hb HX.out.lt), (HX.out.below hb HX.out.lt).c 0 (opA_0 x), (hlk wx hb).1⟩⟩
        clear hvF hlk
        simp only [Act.put]
        refine WL.nil ?_
        refine hK10 _ _ ?_
        refine wp_seq_k fun K11 hK11 => ?_
        have hD0 : Below wq.heap.size wq wq.drew := (Below.refl _ _).drew
        refine wp_region_held_drew (S := fun wx => wx.rangeAt wr.heap.size 0 (opL x) ∧ wx.cell? ⟨wr.heap.size, 0, none⟩ = some (.int .i64 x.kind) ∧ (Instr.lookup 97 (.map (some m)) (.int .i64 x.kind) false).run Try.prog wx = .ok vF wx) (by kernel_rfl) (HS0.out _ hD0) (fun hHeld => ?_)
        refine wpAnyH_take (i := 0) (oi := ⟨some 19, Op.load 79 (Operand.tmp 6), 79, _, _, none⟩) (v := .agg (opL x).toArray) rfl (by kernel_rfl) (by kernel_rfl) (by kernel_rfl) (fun _ _ _ h => h) (yieldsIf_load_mid (by rfl) 79 (Operand.tmp 6) rfl wr.heap.size 0 rfl (opL x) _ (fun w hS => hS.1) Try.underlying79 rfl (Try.size79L x)) hHeld ?_
        simp only [Act.put, List.setIfInBounds_toArray, List.set_cons_zero, List.set_cons_succ]
        refine wpAnyH_take (i := 1) (oi := ⟨some 20, Op.move (Operand.tmp 4), 97, _, _, none⟩) (v := .map (some m)) rfl (by kernel_rfl) (by kernel_rfl) (by kernel_rfl) (fun _ _ _ h => h) (Or.inl ⟨by rfl, fun w hS => by obtain ⟨hs1, hs2, hs3⟩ := hS; go_simp⟩) hHeld ?_
        simp only [Act.put, List.setIfInBounds_toArray, List.set_cons_zero, List.set_cons_succ]
        refine wpAnyH_take (i := 2) (oi := ⟨some 21, Op.fieldAddr 79 (Operand.tmp 6) 0, 0, _, _, none⟩) (v := .pointer (some ⟨wr.heap.size, 0, none⟩)) rfl (by kernel_rfl) (by kernel_rfl) (by kernel_rfl) (fun _ _ _ h => h) (Or.inl ⟨by rfl, fun w hS => by obtain ⟨hs1, hs2, hs3⟩ := hS; go_simp⟩) hHeld ?_
        simp only [Act.put, List.setIfInBounds_toArray, List.set_cons_zero, List.set_cons_succ]
        refine wpAnyH_take (i := 3) (oi := ⟨some 22, Op.load 3 (Operand.tmp 21), 3, _, _, none⟩) (v := .int .i64 x.kind) rfl (by kernel_rfl) (by kernel_rfl) (by kernel_rfl) (fun _ _ _ h => h) (Or.inl ⟨by rfl, fun w hS => by obtain ⟨hs1, hs2, hs3⟩ := hS; go_simp⟩) hHeld ?_
        simp only [Act.put, List.setIfInBounds_toArray, List.set_cons_zero, List.set_cons_succ]
        refine wpAnyH_take (i := 4) (oi := ⟨some 23, Op.lookup 97 (Operand.tmp 20) (Operand.tmp 22) false, 100, _, _, none⟩) (v := vF) rfl (by kernel_rfl) (by kernel_rfl) (by kernel_rfl) (fun _ _ _ h => h) (Or.inl ⟨by rfl, fun w hS => by obtain ⟨hs1, hs2, hs3⟩ := hS; go_simp⟩) hHeld ?_
        simp only [Act.put, List.setIfInBounds_toArray, List.set_cons_zero, List.set_cons_succ]
        refine wpAnyH_take (i := 5) (oi := ⟨some 24, Op.move (Operand.tmp 0), 25, _, _, none⟩) (v := .slice va l.length vc) rfl (by kernel_rfl) (by kernel_rfl) (by kernel_rfl) (fun _ _ _ h => h) (Or.inl ⟨by rfl, fun w hS => by obtain ⟨hs1, hs2, hs3⟩ := hS; go_simp⟩) hHeld ?_
        simp only [Act.put, List.setIfInBounds_toArray, List.set_cons_zero, List.set_cons_succ]
        refine wpAnyH_take (i := 6) (oi := ⟨some 25, Op.move (Operand.tmp 5), 3, _, _, none⟩) (v := .int .i64 (t : Int)) rfl (by kernel_rfl) (by kernel_rfl) (by kernel_rfl) (fun _ _ _ h => h) (Or.inl ⟨by rfl, fun w hS => by obtain ⟨hs1, hs2, hs3⟩ := hS; go_simp⟩) hHeld ?_
        simp only [Act.put, List.setIfInBounds_toArray, List.set_cons_zero, List.set_cons_succ]
        refine wpAnyH_take (i := 7) (oi := ⟨some 26, Op.slice 25 (Operand.tmp 24) none (some (Operand.tmp 25)) none, 25, _, _, none⟩) (v := .slice va t vc) rfl (by kernel_rfl) (by kernel_rfl) (by kernel_rfl) (fun _ _ _ h => h) (yieldsIf_slice (by rfl) 25 (Operand.tmp 24) (Operand.tmp 25) rfl (.slice va l.length vc) (.int .i64 (t : Int)) (.slice va t vc) rfl rfl (sl_run23 _ _ _ t Htk.out.1)) hHeld ?_
        simp only [Act.put, List.setIfInBounds_toArray, List.set_cons_zero, List.set_cons_succ]
        refine wpAnyH_ready (rs := [8]) (by kernel_rfl) (by simp) ?_
        refine AllReadyH.cons (o := ⟨some 27, Op.call { callee := Callee.value (Operand.func 54), args := #[Operand.tmp 19, Operand.tmp 23, Operand.tmp 26], argTypes := #[79, 100, 25] }, 29, _, _, none⟩) rfl (fun K hK => ?_) AllReadyH.nil
        rw [if_pos (by rfl)]
        refine wp_callF 54 _ _ rfl Try.in54 #[.agg (opA x), vF, .slice va t vc] (by simp [Act.eval, rng_load]) (fun vz wz => vz = .int .i64 (wrongV (l.take t) x) ∧ Below wq.heap.size wq wz) ?_ ?_
        · refine (wrong_any x vF _ (l.take t) wq.drew (HvF.out.below hD0) Hx.out (Htk.out.2.below (HG.out.trans (hD0.mono HG.out.size))) (by have := Hlb.out; rw [List.length_take]; omega)).mono ?_
          rintro e wz ⟨rfl, h⟩
          exact ⟨_, rfl, rfl, hD0.trans (h.mono hD0.size)⟩
        rintro vz w7 ⟨rfl, h7⟩
        have HB7 := Keep.mk h7
        clear h7
        refine hK.out _ _ (HS0.out _ HB7.out) fun hHeld2 => ?_
        clear hK
        simp only [Act.put, List.setIfInBounds_toArray, List.set_cons_zero, List.set_cons_succ]
        refine wpAnyH_take (i := 9) (oi := ⟨some 7, Op.assign (Operand.tmp 27), 29, _, _, none⟩) (v := .int .i64 (wrongV (l.take t) x)) rfl (by kernel_rfl) (by kernel_rfl) (by kernel_rfl) (fun _ _ _ h => h) (Or.inl ⟨by rfl, fun w hS => by obtain ⟨hs1, hs2, hs3⟩ := hS; go_simp⟩) hHeld2 ?_
        simp only [Act.put, List.setIfInBounds_toArray, List.set_cons_zero, List.set_cons_succ]
        refine wpAnyH_done (by kernel_rfl) ?_ _
        refine hK11 _ _ ?_
        refine wp_seq_k fun K12 hK12 => ?_
        refine wp_region_list (WL.out ?_)
        refine WL.val (by kernel_rfl) (.int .i64 (wrongV (l.take t) x)) (by go_simp) ?_
        simp only [Act.put, List.setIfInBounds_toArray, List.set_cons_zero, List.set_cons_succ]
        refine WL.val (by kernel_rfl) (.bool false) (by go_simp) ?_
        simp only [Act.put, List.setIfInBounds_toArray, List.set_cons_zero, List.set_cons_succ]
        refine WL.nil ?_
        refine hK12 _ _ ?_
        refine wp_cond_false rfl ?_
        refine wp_skip ?_
        refine hK9 _ _ ?_
        refine wp_region_list (WL.out ?_)
        refine WL.val (by kernel_rfl) (.int .i64 ((t : Int) + 1)) (by go_simp) ?_
        simp only [Act.put, List.setIfInBounds_toArray, List.set_cons_zero, List.set_cons_succ]
        refine WL.val (by kernel_rfl) (.int .i64 ((t : Int) + 1)) (by go_simp) ?_
        simp only [Act.put, List.setIfInBounds_toArray, List.set_cons_zero, List.set_cons_succ]
        refine WL.nil ?_
        rw [if_pos hW] at Hst
        have HB8 := Keep.mk (HG.out.trans (HB7.out.mono HG.out.size))
        refine ⟨⟨t + 1, u2, u3, .int .i64 (t : Int), .pointer (some ⟨wr.heap.size, 0, none⟩), .int .i64 (wrongV (l.take t) x), .bool true, .int .i64 (t : Int), .pointer (some ⟨gL, ofL + t * 37, none⟩), .agg (opA x), .agg (opL x).toArray, .map (some m), .pointer (some ⟨wr.heap.size, 0, none⟩), .int .i64 x.kind, vF, .slice va l.length vc, .int .i64 (t : Int), .slice va t vc, .int .i64 (wrongV (l.take t) x), .int .i64 (wrongV (l.take t) x), .bool false, u30, u31, .int .i64 ((t : Int) + 1), rfl, by omega, hC.trans Hst.out, HTl.out.below HB8.out, HLl.out.below HB8.out, HBl.out.trans (HB8.out.mono HBl.out.size)⟩, ?_⟩
        simp only [intOf]; show l.length - ((t : Int) + 1).toNat < l.length - ((t : Int)).toNat; omega
      · refine wp_seq_k fun K13 hK13 => ?_
        refine wp_region_list (WL.out ?_)
        refine WL.val (by kernel_rfl) (.bool true) (by go_simp) ?_
        simp only [Act.put, List.setIfInBounds_toArray, List.set_cons_zero, List.set_cons_succ]
        refine WL.nil ?_
        refine hK13 _ _ ?_
        refine wp_seq_k fun K14 hK14 => ?_
        refine wp_cond_true rfl ?_
        refine wp_skip ?_
        refine hK14 _ _ ?_
        refine wp_seq_k fun K15 hK15 => ?_
        refine wp_block ?_
        refine wp_seq_k fun K16 hK16 => ?_
        refine wp_region_list (WL.out ?_)
        refine WL.val (by kernel_rfl) (.int .i64 (t : Int)) (by go_simp) ?_
        simp only [Act.put, List.setIfInBounds_toArray, List.set_cons_zero, List.set_cons_succ]
        refine WL.val (by kernel_rfl) (.pointer (some ⟨gL, ofL + t * 37, none⟩)) (by go_simp) ?_
        simp only [Act.put, List.setIfInBounds_toArray, List.set_cons_zero, List.set_cons_succ]
        refine WL.mid (by kernel_rfl) 79 (.tmp 17) rfl gL (ofL + t * 37) rfl (opL x) _ hr Try.underlying79 rfl (Try.size79L x) ?_
        rw [rng_load]
        simp only [Act.put, List.setIfInBounds_toArray, List.set_cons_zero, List.set_cons_succ]
        refine WL.new (by kernel_rfl) 79 rfl _ Try.new79 ?_
        simp only [Act.put, List.setIfInBounds_toArray, List.set_cons_zero, List.set_cons_succ]
        refine WL.val (by kernel_rfl) (.int .i64 (t : Int)) (by go_simp) ?_
        simp only [Act.put, List.setIfInBounds_toArray, List.set_cons_zero, List.set_cons_succ]
        refine WL.storeR (by kernel_rfl) 79 (.tmp 6) (.tmp 18) rfl wr.heap.size (opA x) rfl rfl 79 (opA zeroOp) (Blk.new wr 79 _) (Try.size79B x) (opA_sizes _ _) (opA_one x) ?_
        have HX := Keep.mk ((Blk.new wr 79 (opA zeroOp)).setRow (opA x))
        have HG : Keep (Below wr.heap.size wr ((wr.alloc (.cells (opA zeroOp) 79)).setRow wr.heap.size (opA x))) := ⟨below_setRow (below_new wr _) (Nat.le_refl _) _⟩
        generalize (wr.alloc (.cells (opA zeroOp) 79)).setRow wr.heap.size (opA x) = wq at *
        obtain ⟨vF, hvF, hlk⟩ := (HTl.out.below HG.out).look2 x.kind
        have HvF := Keep.mk hvF
        have HS0 : Keep (∀ wx, Below wq.heap.size wq wx → wx.rangeAt wr.heap.size 0 (opL x) ∧ wx.cell? ⟨wr.heap.size, 0, none⟩ = some (.int .i64 x.kind) ∧ (Instr.lookup 97 (.map (some m)) (.int .i64 x.kind) false).run Try.prog wx = .ok vF wx) := ⟨fun wx hb => ⟨blk_range (HX.out.below hb HX.out.lt), (HX.out.below hb HX.out.lt).c 0 (opA_0 x), (hlk wx hb).1⟩⟩
        clear hvF hlk
        simp only [Act.put]
        refine WL.nil ?_
        refine hK16 _ _ ?_
        refine wp_seq_k fun K17 hK17 => ?_
        have hD0 : Below wq.heap.size wq wq.drew := (Below.refl _ _).drew
        refine wp_region_held_drew (S := fun wx => wx.rangeAt wr.heap.size 0 (opL x) ∧ wx.cell? ⟨wr.heap.size, 0, none⟩ = some (.int .i64 x.kind) ∧ (Instr.lookup 97 (.map (some m)) (.int .i64 x.kind) false).run Try.prog wx = .ok vF wx) (by kernel_rfl) (HS0.out _ hD0) (fun hHeld => ?_)
        refine wpAnyH_take (i := 0) (oi := ⟨some 19, Op.load 79 (Operand.tmp 6), 79, _, _, none⟩) (v := .agg (opL x).toArray) rfl (by kernel_rfl) (by kernel_rfl) (by kernel_rfl) (fun _ _ _ h => h) (yieldsIf_load_mid (by rfl) 79 (Operand.tmp 6) rfl wr.heap.size 0 rfl (opL x) _ (fun w hS => hS.1) Try.underlying79 rfl (Try.size79L x)) hHeld ?_
        simp only [Act.put, List.setIfInBounds_toArray, List.set_cons_zero, List.set_cons_succ]
        refine wpAnyH_take (i := 1) (oi := ⟨some 20, Op.move (Operand.tmp 4), 97, _, _, none⟩) (v := .map (some m)) rfl (by kernel_rfl) (by kernel_rfl) (by kernel_rfl) (fun _ _ _ h => h) (Or.inl ⟨by rfl, fun w hS => by obtain ⟨hs1, hs2, hs3⟩ := hS; go_simp⟩) hHeld ?_
        simp only [Act.put, List.setIfInBounds_toArray, List.set_cons_zero, List.set_cons_succ]
        refine wpAnyH_take (i := 2) (oi := ⟨some 21, Op.fieldAddr 79 (Operand.tmp 6) 0, 0, _, _, none⟩) (v := .pointer (some ⟨wr.heap.size, 0, none⟩)) rfl (by kernel_rfl) (by kernel_rfl) (by kernel_rfl) (fun _ _ _ h => h) (Or.inl ⟨by rfl, fun w hS => by obtain ⟨hs1, hs2, hs3⟩ := hS; go_simp⟩) hHeld ?_
        simp only [Act.put, List.setIfInBounds_toArray, List.set_cons_zero, List.set_cons_succ]
        refine wpAnyH_take (i := 3) (oi := ⟨some 22, Op.load 3 (Operand.tmp 21), 3, _, _, none⟩) (v := .int .i64 x.kind) rfl (by kernel_rfl) (by kernel_rfl) (by kernel_rfl) (fun _ _ _ h => h) (Or.inl ⟨by rfl, fun w hS => by obtain ⟨hs1, hs2, hs3⟩ := hS; go_simp⟩) hHeld ?_
        simp only [Act.put, List.setIfInBounds_toArray, List.set_cons_zero, List.set_cons_succ]
        refine wpAnyH_take (i := 4) (oi := ⟨some 23, Op.lookup 97 (Operand.tmp 20) (Operand.tmp 22) false, 100, _, _, none⟩) (v := vF) rfl (by kernel_rfl) (by kernel_rfl) (by kernel_rfl) (fun _ _ _ h => h) (Or.inl ⟨by rfl, fun w hS => by obtain ⟨hs1, hs2, hs3⟩ := hS; go_simp⟩) hHeld ?_
        simp only [Act.put, List.setIfInBounds_toArray, List.set_cons_zero, List.set_cons_succ]
        refine wpAnyH_take (i := 5) (oi := ⟨some 24, Op.move (Operand.tmp 0), 25, _, _, none⟩) (v := .slice va l.length vc) rfl (by kernel_rfl) (by kernel_rfl) (by kernel_rfl) (fun _ _ _ h => h) (Or.inl ⟨by rfl, fun w hS => by obtain ⟨hs1, hs2, hs3⟩ := hS; go_simp⟩) hHeld ?_
        simp only [Act.put, List.setIfInBounds_toArray, List.set_cons_zero, List.set_cons_succ]
        refine wpAnyH_take (i := 6) (oi := ⟨some 25, Op.move (Operand.tmp 5), 3, _, _, none⟩) (v := .int .i64 (t : Int)) rfl (by kernel_rfl) (by kernel_rfl) (by kernel_rfl) (fun _ _ _ h => h) (Or.inl ⟨by rfl, fun w hS => by obtain ⟨hs1, hs2, hs3⟩ := hS; go_simp⟩) hHeld ?_
        simp only [Act.put, List.setIfInBounds_toArray, List.set_cons_zero, List.set_cons_succ]
        refine wpAnyH_take (i := 7) (oi := ⟨some 26, Op.slice 25 (Operand.tmp 24) none (some (Operand.tmp 25)) none, 25, _, _, none⟩) (v := .slice va t vc) rfl (by kernel_rfl) (by kernel_rfl) (by kernel_rfl) (fun _ _ _ h => h) (yieldsIf_slice (by rfl) 25 (Operand.tmp 24) (Operand.tmp 25) rfl (.slice va l.length vc) (.int .i64 (t : Int)) (.slice va t vc) rfl rfl (sl_run23 _ _ _ t Htk.out.1)) hHeld ?_
        simp only [Act.put, List.setIfInBounds_toArray, List.set_cons_zero, List.set_cons_succ]
        refine wpAnyH_ready (rs := [8]) (by kernel_rfl) (by simp) ?_
        refine AllReadyH.cons (o := ⟨some 27, Op.call { callee := Callee.value (Operand.func 54), args := #[Operand.tmp 19, Operand.tmp 23, Operand.tmp 26], argTypes := #[79, 100, 25] }, 29, _, _, none⟩) rfl (fun K hK => ?_) AllReadyH.nil
        rw [if_pos (by rfl)]
        refine wp_callF 54 _ _ rfl Try.in54 #[.agg (opA x), vF, .slice va t vc] (by simp [Act.eval, rng_load]) (fun vz wz => vz = .int .i64 (wrongV (l.take t) x) ∧ Below wq.heap.size wq wz) ?_ ?_
        · refine (wrong_any x vF _ (l.take t) wq.drew (HvF.out.below hD0) Hx.out (Htk.out.2.below (HG.out.trans (hD0.mono HG.out.size))) (by have := Hlb.out; rw [List.length_take]; omega)).mono ?_
          rintro e wz ⟨rfl, h⟩
          exact ⟨_, rfl, rfl, hD0.trans (h.mono hD0.size)⟩
        rintro vz w7 ⟨rfl, h7⟩
        have HB7 := Keep.mk h7
        clear h7
        refine hK.out _ _ (HS0.out _ HB7.out) fun hHeld2 => ?_
        clear hK
        simp only [Act.put, List.setIfInBounds_toArray, List.set_cons_zero, List.set_cons_succ]
        refine wpAnyH_take (i := 9) (oi := ⟨some 7, Op.assign (Operand.tmp 27), 29, _, _, none⟩) (v := .int .i64 (wrongV (l.take t) x)) rfl (by kernel_rfl) (by kernel_rfl) (by kernel_rfl) (fun _ _ _ h => h) (Or.inl ⟨by rfl, fun w hS => by obtain ⟨hs1, hs2, hs3⟩ := hS; go_simp⟩) hHeld2 ?_
        simp only [Act.put, List.setIfInBounds_toArray, List.set_cons_zero, List.set_cons_succ]
        refine wpAnyH_done (by kernel_rfl) ?_ _
        refine hK17 _ _ ?_
        refine wp_seq_k fun K18 hK18 => ?_
        refine wp_region_list (WL.out ?_)
        refine WL.val (by kernel_rfl) (.int .i64 (wrongV (l.take t) x)) (by go_simp) ?_
        simp only [Act.put, List.setIfInBounds_toArray, List.set_cons_zero, List.set_cons_succ]
        refine WL.val (by kernel_rfl) (.bool true) (by go_simp) ?_
        simp only [Act.put, List.setIfInBounds_toArray, List.set_cons_zero, List.set_cons_succ]
        refine WL.nil ?_
        refine hK18 _ _ ?_
        refine wp_cond_true rfl ?_
        refine wp_seq_k fun K19 hK19 => ?_
        refine wp_region_list (WL.out ?_)
        refine WL.val (by kernel_rfl) (.int .i64 (wrongV (l.take t) x)) (by go_simp) ?_
        simp only [Act.put, List.setIfInBounds_toArray, List.set_cons_zero, List.set_cons_succ]
        refine WL.val (by kernel_rfl) (.int .i64 (t : Int)) (by go_simp) ?_
        simp only [Act.put, List.setIfInBounds_toArray, List.set_cons_zero, List.set_cons_succ]
        refine WL.val (by kernel_rfl) (.int .i64 (wrongV (l.take t) x)) (by go_simp) ?_
        simp only [Act.put, List.setIfInBounds_toArray, List.set_cons_zero, List.set_cons_succ]
        refine WL.val (by kernel_rfl) (.int .i64 (t : Int)) (by go_simp) ?_
        simp only [Act.put, List.setIfInBounds_toArray, List.set_cons_zero, List.set_cons_succ]
        refine WL.nil ?_
        refine hK19 _ _ ?_
        refine wp_ret ?_
        rw [if_neg hW] at Hst
        go_ret2
        exact ⟨by rw [HR.out, hC, Hst.out]; rfl, HBl.out.trans ((HG.out.trans (HB7.out.mono HG.out.size)).mono HBl.out.size)⟩
    · obtain rfl : t = l.length := by omega
      have htl' : ¬ (l.length : Int) < (l.length : Int) := by omega
      refine wp_seq_k fun K20 hK20 => ?_
      refine wp_region_list (WL.out ?_)
      refine WL.val (by kernel_rfl) (.bool false) (by go_simp) ?_
      simp only [Act.put, List.setIfInBounds_toArray, List.set_cons_zero, List.set_cons_succ]
      refine WL.nil ?_
      refine hK20 _ _ ?_
      refine wp_seq_k fun K21 hK21 => ?_
      refine wp_cond_false rfl ?_
      refine wp_exit ?_
      refine hK5 _ _ ?_
      refine wp_seq_k fun K22 hK22 => ?_
      refine wp_region_list (WL.out ?_)
      refine WL.val (by kernel_rfl) (.int .i64 0) (by go_simp) ?_
      simp only [Act.put, List.setIfInBounds_toArray, List.set_cons_zero, List.set_cons_succ]
      refine WL.val (by kernel_rfl) (.int .i64 0) (by go_simp) ?_
      simp only [Act.put, List.setIfInBounds_toArray, List.set_cons_zero, List.set_cons_succ]
      refine WL.nil ?_
      refine hK22 _ _ ?_
      refine wp_ret ?_
      go_ret2
      exact ⟨by rw [HR.out, hC, List.drop_length]; rfl, hB⟩

def putF (i : Nat) (x : OpV) : List Int := if i = 0 then bform (lst x.key) else if i = 1 then bform (lst x.text) else if i = 2 then numL (zig x.n) else numL x.op.toNat ++ (if x.op = 0 then [] else hl 32 (hof x.node))
theorem OutAt.below {w w' : World} {p : Nat} {v : Value} {l : List Int} (h : OutAt w p v l) (hb : Below w.heap.size w w') : OutAt w' p v l :=
  h.grown (Grown.below (S := fun _ => False) hb) fun _ _ h => h
theorem OutAt.off {w : World} {p : Nat} {v : Value} {l : List Int} (h : OutAt w p v l) {g : Nat} {T : TypeId} {cs : Array Value} (hg : Blk w g T cs) (h1 : T ≠ 90) (h2 : T ≠ 5) : ¬ OF p v g := by
  rintro (rfl | e)
  · exact h1 (blk_type hg h.blk)
  · exact h.own.ne hg h2 e
theorem OutAt.offT {w : World} {p : Nat} {v : Value} {l : List Int} (h : OutAt w p v l) {m : Nat} (ht : TabAt w m) : ¬ OF p v m := by
  rintro (rfl | e)
  · exact ht.ne h.blk rfl
  · rcases h.own.form with ⟨rfl, _⟩ | ⟨g, cap, cur, rfl, hg, _⟩
    · simp [Value.ownBlock] at e
    · simp [Value.ownBlock] at e
      subst e
      exact ht.ne hg rfl
theorem OutAt.tab {w w' : World} {p : Nat} {v : Value} {l : List Int} (h : OutAt w p v l) {m : Nat} (ht : TabAt w m) (hg : Grown w w' (OF p v)) : TabAt w' m :=
  ht.grown hg (h.offT ht) fun _ _ hb => h.off hb (by decide) (by decide)
theorem OutAt.keeps {w w' : World} {p : Nat} {v : Value} {l : List Int} (h : OutAt w p v l) {g : Nat} {T : TypeId} {cs : Array Value} (hb : Blk w g T cs) (h1 : T ≠ 90) (h2 : T ≠ 5) (hg : Grown w w' (OF p v)) : Blk w' g T cs := hg.blk hb (h.off hb h1 h2)
theorem OutAt.fields {w w' : World} {p : Nat} {v : Value} {l : List Int} (h : OutAt w p v l) {u : Value} {is : List Nat} (hf : FieldsAt w u is) (hg : Grown w w' (OF p v)) : FieldsAt w' u is :=
  hf.grown hg fun _ hb => h.off hb (by decide) (by decide)
theorem put0_any (p : Nat) (v : Value) (l : List Int) (x : OpV) (w : World) (h : OutAt w p v l) (hx : OpOk x) (hb : l.length + (putF 0 x).length ≤ 200000000000000) :
    Calls Try.prog 100 #[ptr p, .agg (opA x)] w (OutPost p v (l ++ putF 0 x) w) := by
  have e : putF 0 x = bform (lst x.key) := rfl
  rw [e] at hb ⊢
  have HO : Keep (OutAt (w.alloc (.cells (opA x) 79)) p v l) := ⟨h.box _⟩
  have HB := Keep.mk (Blk.new w 79 (opA x))
  obtain ⟨w1, hw1⟩ : ∃ w1, Keep (w.alloc (.cells (opA x) 79) = w1) := ⟨_, ⟨rfl⟩⟩
  rw [hw1.out] at HB HO
  have Hb := Keep.mk hb
  have Hx := Keep.mk hx
  have c1 := HB.out.c 1 (opA_1 x)
  clear h hb hx e
  go_enter Try.func100, Try.ntmps100
  refine wp_seq_k fun K1 hK1 => ?_
  refine wp_region_list (WL.out ?_)
  refine WL.box (by kernel_rfl) 79 (.tmp 1) rfl (opA x) rfl ?_
  rw [hw1.out]
  simp only [Act.put, List.setIfInBounds_toArray, List.set_cons_zero, List.set_cons_succ]
  refine WL.nil ?_
  refine hK1 _ _ ?_
  refine wp_region_list (WL.out ?_)
  refine WL.val (by kernel_rfl) (.pointer (some ⟨p, 0, none⟩)) (by go_simp) ?_
  simp only [Act.put, List.setIfInBounds_toArray, List.set_cons_zero, List.set_cons_succ]
  refine WL.val (by kernel_rfl) (.pointer (some ⟨w.heap.size, 1, none⟩)) (by go_simp) ?_
  simp only [Act.put, List.setIfInBounds_toArray, List.set_cons_zero, List.set_cons_succ]
  refine WL.val (by kernel_rfl) (.string x.key) (by go_simp) ?_
  simp only [Act.put, List.setIfInBounds_toArray, List.set_cons_zero, List.set_cons_succ]
  refine WL.callF (by kernel_rfl) 101 _ _ rfl Try.in101 #[ptr p, .string x.key] (by simp [Act.eval]) ?_
  refine (otext_any p v l x.key w1 HO.out Hb.out Hx.out.key).mono ?_
  rintro e w2 hp
  obtain ⟨rfl, hq⟩ := hp
  refine ⟨_, rfl, ?_⟩
  have HP := Keep.mk hq
  clear hq
  simp only [Act.put, List.setIfInBounds_toArray, List.set_cons_zero, List.set_cons_succ]
  refine WL.nil ?_
  go_end0
  exact OutPost.box (o := .cells (opA x) 79) (by rw [hw1.out]; exact ⟨rfl, HP.out⟩)
theorem put1_any (p : Nat) (v : Value) (l : List Int) (x : OpV) (w : World) (h : OutAt w p v l) (hx : OpOk x) (hb : l.length + (putF 1 x).length ≤ 200000000000000) :
    Calls Try.prog 105 #[ptr p, .agg (opA x)] w (OutPost p v (l ++ putF 1 x) w) := by
  have e : putF 1 x = bform (lst x.text) := rfl
  rw [e] at hb ⊢
  have HO : Keep (OutAt (w.alloc (.cells (opA x) 79)) p v l) := ⟨h.box _⟩
  have HB := Keep.mk (Blk.new w 79 (opA x))
  obtain ⟨w1, hw1⟩ : ∃ w1, Keep (w.alloc (.cells (opA x) 79) = w1) := ⟨_, ⟨rfl⟩⟩
  rw [hw1.out] at HB HO
  have Hb := Keep.mk hb
  have Hx := Keep.mk hx
  have c1 := HB.out.c 2 (opA_2 x)
  clear h hb hx e
  go_enter Try.func105, Try.ntmps105
  refine wp_seq_k fun K1 hK1 => ?_
  refine wp_region_list (WL.out ?_)
  refine WL.box (by kernel_rfl) 79 (.tmp 1) rfl (opA x) rfl ?_
  rw [hw1.out]
  simp only [Act.put, List.setIfInBounds_toArray, List.set_cons_zero, List.set_cons_succ]
  refine WL.nil ?_
  refine hK1 _ _ ?_
  refine wp_region_list (WL.out ?_)
  refine WL.val (by kernel_rfl) (.pointer (some ⟨p, 0, none⟩)) (by go_simp) ?_
  simp only [Act.put, List.setIfInBounds_toArray, List.set_cons_zero, List.set_cons_succ]
  refine WL.val (by kernel_rfl) (.pointer (some ⟨w.heap.size, 2, none⟩)) (by go_simp) ?_
  simp only [Act.put, List.setIfInBounds_toArray, List.set_cons_zero, List.set_cons_succ]
  refine WL.val (by kernel_rfl) (.string x.text) (by go_simp) ?_
  simp only [Act.put, List.setIfInBounds_toArray, List.set_cons_zero, List.set_cons_succ]
  refine WL.callF (by kernel_rfl) 101 _ _ rfl Try.in101 #[ptr p, .string x.text] (by simp [Act.eval]) ?_
  refine (otext_any p v l x.text w1 HO.out Hb.out Hx.out.text).mono ?_
  rintro e w2 hp
  obtain ⟨rfl, hq⟩ := hp
  refine ⟨_, rfl, ?_⟩
  have HP := Keep.mk hq
  clear hq
  simp only [Act.put, List.setIfInBounds_toArray, List.set_cons_zero, List.set_cons_succ]
  refine WL.nil ?_
  go_end0
  exact OutPost.box (o := .cells (opA x) 79) (by rw [hw1.out]; exact ⟨rfl, HP.out⟩)
theorem put2_any (p : Nat) (v : Value) (l : List Int) (x : OpV) (w : World) (h : OutAt w p v l) (hx : OpOk x) (hb : l.length + (putF 2 x).length ≤ 200000000000000) :
    Calls Try.prog 108 #[ptr p, .agg (opA x)] w (OutPost p v (l ++ putF 2 x) w) := by
  have e : putF 2 x = numL (zig x.n) := rfl
  rw [e] at hb ⊢
  have HO : Keep (OutAt (w.alloc (.cells (opA x) 79)) p v l) := ⟨h.box _⟩
  have HB := Keep.mk (Blk.new w 79 (opA x))
  obtain ⟨w1, hw1⟩ : ∃ w1, Keep (w.alloc (.cells (opA x) 79) = w1) := ⟨_, ⟨rfl⟩⟩
  rw [hw1.out] at HB HO
  have Hb := Keep.mk hb
  have Hx := Keep.mk hx
  have c1 := HB.out.c 3 (opA_3 x)
  clear h hb hx e
  go_enter Try.func108, Try.ntmps108
  refine wp_seq_k fun K1 hK1 => ?_
  refine wp_region_list (WL.out ?_)
  refine WL.box (by kernel_rfl) 79 (.tmp 1) rfl (opA x) rfl ?_
  rw [hw1.out]
  simp only [Act.put, List.setIfInBounds_toArray, List.set_cons_zero, List.set_cons_succ]
  refine WL.nil ?_
  refine hK1 _ _ ?_
  refine wp_region_list (WL.out ?_)
  refine WL.val (by kernel_rfl) (.pointer (some ⟨p, 0, none⟩)) (by go_simp) ?_
  simp only [Act.put, List.setIfInBounds_toArray, List.set_cons_zero, List.set_cons_succ]
  refine WL.val (by kernel_rfl) (.pointer (some ⟨w.heap.size, 3, none⟩)) (by go_simp) ?_
  simp only [Act.put, List.setIfInBounds_toArray, List.set_cons_zero, List.set_cons_succ]
  refine WL.val (by kernel_rfl) (.int .i64 x.n) (by go_simp) ?_
  simp only [Act.put, List.setIfInBounds_toArray, List.set_cons_zero, List.set_cons_succ]
  refine WL.callF (by kernel_rfl) 109 _ _ rfl Try.in109 #[ptr p, .int .i64 x.n] (by simp [Act.eval]) ?_
  refine (osigned_any p v l x.n w1 HO.out Hx.out.n1 Hx.out.n2 (by have := Hb.out; rw [List.length_append]; exact this)).mono ?_
  rintro e w2 hp
  obtain ⟨rfl, hq⟩ := hp
  refine ⟨_, rfl, ?_⟩
  have HP := Keep.mk hq
  clear hq
  simp only [Act.put, List.setIfInBounds_toArray, List.set_cons_zero, List.set_cons_succ]
  refine WL.nil ?_
  go_end0
  exact OutPost.box (o := .cells (opA x) 79) (by rw [hw1.out]; exact ⟨rfl, HP.out⟩)
theorem put3_any (p : Nat) (v : Value) (l : List Int) (x : OpV) (w : World) (h : OutAt w p v l) (hx : OpOk x) (ho1 : 0 ≤ x.op) (ho2 : x.op ≤ 1024) (hb : l.length + (putF 3 x).length ≤ 200000000000000) :
    Calls Try.prog 113 #[ptr p, .agg (opA x)] w (OutPost p v (l ++ putF 3 x) w) := by
  obtain ⟨n, hn⟩ : ∃ n : Nat, x.op = (n : Int) := ⟨x.op.toNat, by omega⟩
  have e : putF 3 x = numL n ++ (if x.op = 0 then [] else hl 32 (hof x.node)) := by
    show numL x.op.toNat ++ _ = _
    rw [hn, Int.toNat_natCast]
  rw [e] at hb ⊢
  have HO : Keep (OutAt (w.alloc (.cells (opA x) 79)) p v l) := ⟨h.box _⟩
  have HB := Keep.mk (Blk.new w 79 (opA x))
  obtain ⟨w1, hw1⟩ : ∃ w1, Keep (w.alloc (.cells (opA x) 79) = w1) := ⟨_, ⟨rfl⟩⟩
  rw [hw1.out] at HB HO
  have Hb := Keep.mk hb
  have Hx := Keep.mk hx
  have c36 := HB.out.c 36 (opA_36 x)
  have Hn : Keep (n ≤ 1024) := ⟨by omega⟩
  have hwn : IntKind.u64.wrap x.op = (n : Int) := by rw [hn, IntKind.wrap_u64]; have := Hn.out; omega
  rw [List.length_append] at Hb
  clear h hb hx e
  go_enter Try.func113, Try.ntmps113
  by_cases h0 : x.op = 0
  · rw [if_pos h0] at Hb ⊢
    rw [h0] at hwn
    clear hn
    refine wp_seq_k fun K1 hK1 => ?_
    refine wp_region_list (WL.out ?_)
    refine WL.box (by kernel_rfl) 79 (.tmp 1) rfl (opA x) rfl ?_
    rw [hw1.out]
    simp only [Act.put, List.setIfInBounds_toArray, List.set_cons_zero, List.set_cons_succ]
    refine WL.nil ?_
    refine hK1 _ _ ?_
    refine wp_seq_k fun K2 hK2 => ?_
    refine wp_region_list (WL.out ?_)
    refine WL.val (by kernel_rfl) (.pointer (some ⟨p, 0, none⟩)) (by go_simp) ?_
    simp only [Act.put, List.setIfInBounds_toArray, List.set_cons_zero, List.set_cons_succ]
    refine WL.val (by kernel_rfl) (.pointer (some ⟨w.heap.size, 4, none⟩)) (by go_simp) ?_
    simp only [Act.put, List.setIfInBounds_toArray, List.set_cons_zero, List.set_cons_succ]
    refine WL.val (by kernel_rfl) (.pointer (some ⟨w.heap.size, 36, none⟩)) (by go_simp) ?_
    simp only [Act.put, List.setIfInBounds_toArray, List.set_cons_zero, List.set_cons_succ]
    refine WL.val (by kernel_rfl) (.int .i64 x.op) (by go_simp) ?_
    simp only [Act.put, List.setIfInBounds_toArray, List.set_cons_zero, List.set_cons_succ]
    refine WL.val (by kernel_rfl) (.int .u64 (n : Int)) (by go_simp) ?_
    simp only [Act.put, List.setIfInBounds_toArray, List.set_cons_zero, List.set_cons_succ]
    refine WL.callF (by kernel_rfl) 44 _ _ rfl Try.in44 #[ptr p, .int .u64 (n : Int)] (by simp [Act.eval]) ?_
    refine (onum_any p v l n w1 HO.out (by have := Hn.out; omega) (by have := Hb.out; rw [List.length_append]; omega)).mono ?_
    rintro e w2 hp
    obtain ⟨rfl, v2, hO2, hm2, hg2⟩ := hp
    refine ⟨_, rfl, ?_⟩
    have HO2 := Keep.mk hO2
    have HM2 := Keep.mk hm2
    have HG2 := Keep.mk hg2
    have HB2 := Keep.mk (HO.out.keeps HB.out (by decide) (by decide) hg2)
    have d36 := HB2.out.c 36 (opA_36 x)
    clear hO2 hm2 hg2
    simp only [Act.put, List.setIfInBounds_toArray, List.set_cons_zero, List.set_cons_succ]
    refine WL.nil ?_
    refine hK2 _ _ ?_
    refine wp_seq_k fun K3 hK3 => ?_
    refine wp_region_list (WL.out ?_)
    refine WL.val (by kernel_rfl) (.pointer (some ⟨w.heap.size, 4, none⟩)) (by go_simp) ?_
    simp only [Act.put, List.setIfInBounds_toArray, List.set_cons_zero, List.set_cons_succ]
    refine WL.val (by kernel_rfl) (.pointer (some ⟨w.heap.size, 36, none⟩)) (by go_simp) ?_
    simp only [Act.put, List.setIfInBounds_toArray, List.set_cons_zero, List.set_cons_succ]
    refine WL.val (by kernel_rfl) (.int .i64 x.op) (by go_simp) ?_
    simp only [Act.put, List.setIfInBounds_toArray, List.set_cons_zero, List.set_cons_succ]
    refine WL.val (by kernel_rfl) (.bool false) (by go_simp) ?_
    simp only [Act.put, List.setIfInBounds_toArray, List.set_cons_zero, List.set_cons_succ]
    refine WL.nil ?_
    refine hK3 _ _ ?_
    refine wp_cond_false rfl ?_
    refine wp_skip ?_
    go_end0
    exact OutPost.box (o := .cells (opA x) 79) (by rw [hw1.out, List.append_nil]; exact ⟨rfl, v2, HO2.out, HM2.out, HG2.out⟩)
  · rw [if_neg h0, hl_len] at Hb
    rw [if_neg h0]
    clear hn
    refine wp_seq_k fun K1 hK1 => ?_
    refine wp_region_list (WL.out ?_)
    refine WL.box (by kernel_rfl) 79 (.tmp 1) rfl (opA x) rfl ?_
    rw [hw1.out]
    simp only [Act.put, List.setIfInBounds_toArray, List.set_cons_zero, List.set_cons_succ]
    refine WL.nil ?_
    refine hK1 _ _ ?_
    refine wp_seq_k fun K2 hK2 => ?_
    refine wp_region_list (WL.out ?_)
    refine WL.val (by kernel_rfl) (.pointer (some ⟨p, 0, none⟩)) (by go_simp) ?_
    simp only [Act.put, List.setIfInBounds_toArray, List.set_cons_zero, List.set_cons_succ]
    refine WL.val (by kernel_rfl) (.pointer (some ⟨w.heap.size, 4, none⟩)) (by go_simp) ?_
    simp only [Act.put, List.setIfInBounds_toArray, List.set_cons_zero, List.set_cons_succ]
    refine WL.val (by kernel_rfl) (.pointer (some ⟨w.heap.size, 36, none⟩)) (by go_simp) ?_
    simp only [Act.put, List.setIfInBounds_toArray, List.set_cons_zero, List.set_cons_succ]
    refine WL.val (by kernel_rfl) (.int .i64 x.op) (by go_simp) ?_
    simp only [Act.put, List.setIfInBounds_toArray, List.set_cons_zero, List.set_cons_succ]
    refine WL.val (by kernel_rfl) (.int .u64 (n : Int)) (by go_simp) ?_
    simp only [Act.put, List.setIfInBounds_toArray, List.set_cons_zero, List.set_cons_succ]
    refine WL.callF (by kernel_rfl) 44 _ _ rfl Try.in44 #[ptr p, .int .u64 (n : Int)] (by simp [Act.eval]) ?_
    refine (onum_any p v l n w1 HO.out (by have := Hn.out; omega) (by have := Hb.out; rw [List.length_append]; omega)).mono ?_
    rintro e w2 hp
    obtain ⟨rfl, v2, hO2, hm2, hg2⟩ := hp
    refine ⟨_, rfl, ?_⟩
    have HO2 := Keep.mk hO2
    have HM2 := Keep.mk hm2
    have HG2 := Keep.mk hg2
    have HB2 := Keep.mk (HO.out.keeps HB.out (by decide) (by decide) hg2)
    have d36 := HB2.out.c 36 (opA_36 x)
    clear hO2 hm2 hg2
    simp only [Act.put, List.setIfInBounds_toArray, List.set_cons_zero, List.set_cons_succ]
    refine WL.nil ?_
    refine hK2 _ _ ?_
    refine wp_seq_k fun K3 hK3 => ?_
    refine wp_region_list (WL.out ?_)
    refine WL.val (by kernel_rfl) (.pointer (some ⟨w.heap.size, 4, none⟩)) (by go_simp) ?_
    simp only [Act.put, List.setIfInBounds_toArray, List.set_cons_zero, List.set_cons_succ]
    refine WL.val (by kernel_rfl) (.pointer (some ⟨w.heap.size, 36, none⟩)) (by go_simp) ?_
    simp only [Act.put, List.setIfInBounds_toArray, List.set_cons_zero, List.set_cons_succ]
    refine WL.val (by kernel_rfl) (.int .i64 x.op) (by go_simp) ?_
    simp only [Act.put, List.setIfInBounds_toArray, List.set_cons_zero, List.set_cons_succ]
    refine WL.val (by kernel_rfl) (.bool true) (by go_simp) ?_
    simp only [Act.put, List.setIfInBounds_toArray, List.set_cons_zero, List.set_cons_succ]
    refine WL.nil ?_
    refine hK3 _ _ ?_
    refine wp_cond_true rfl ?_
    refine wp_region_list (WL.out ?_)
    refine WL.val (by kernel_rfl) (.pointer (some ⟨p, 0, none⟩)) (by go_simp) ?_
    simp only [Act.put, List.setIfInBounds_toArray, List.set_cons_zero, List.set_cons_succ]
    refine WL.val (by kernel_rfl) (.pointer (some ⟨w.heap.size, 4, none⟩)) (by go_simp) ?_
    simp only [Act.put, List.setIfInBounds_toArray, List.set_cons_zero, List.set_cons_succ]
    refine WL.val (by kernel_rfl) (.pointer (some ⟨w.heap.size, 4, none⟩)) (by go_simp) ?_
    simp only [Act.put, List.setIfInBounds_toArray, List.set_cons_zero, List.set_cons_succ]
    refine WL.midA (by kernel_rfl) 40 (.tmp 16) rfl w.heap.size 4 rfl (bytesA 32 (hof x.node)) _ (opA_nodes HB2.out) Try.underlying40 rfl (Try.size40B _) ?_
    simp only [Act.put, List.setIfInBounds_toArray, List.set_cons_zero, List.set_cons_succ]
    refine WL.callF (by kernel_rfl) 45 _ _ rfl Try.in45 #[ptr p, .agg (bytesA 32 (hof x.node))] (by simp [Act.eval]) ?_
    refine (ohash_any p v2 (l ++ numL n) (hof x.node) w2 HO2.out (by have := Hb.out; rw [List.length_append]; omega)).mono ?_
    rintro e w3 hp
    obtain ⟨rfl, hq⟩ := hp
    refine ⟨_, rfl, ?_⟩
    have HP := Keep.mk hq
    clear hq
    simp only [Act.put, List.setIfInBounds_toArray, List.set_cons_zero, List.set_cons_succ]
    refine WL.nil ?_
    go_end0
    exact OutPost.box (o := .cells (opA x) 79) (by rw [hw1.out, ← List.append_assoc]; exact OutPost.trans HM2.out HG2.out ⟨rfl, HP.out⟩)

def oneF (x : OpV) : List Int := x.kind :: (hasI x.kind).flatMap fun i => putF i x
def formL (l : List OpV) : List Int := numL l.length ++ l.flatMap oneF
end Go.Proofs.Ytgpgnldcdimmbaa
