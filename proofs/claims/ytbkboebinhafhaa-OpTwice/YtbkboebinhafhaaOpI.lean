import Derived.Test.YtbkboebinhafhaaOpH
namespace Go.Proofs.Ytbkboebinhafhaa
open Go.RowKit
set_option linter.unusedSimpArgs false

def flatO (l : List OpV) : List Value := l.flatMap opL
theorem flatO_len (l : List OpV) : (flatO l).length = l.length * 37 := by
  induction l with
  | nil => rfl
  | cons x l ih =>
    simp only [flatO, List.flatMap_cons, List.length_append, opL_len, List.length_cons] at ih ⊢
    rw [ih]; omega
theorem flatO_drop (l : List OpV) : ∀ t, (flatO l).drop (t * 37) = flatO (l.drop t) := by
  induction l with
  | nil => intro t; simp [flatO]
  | cons x l ih =>
    intro t
    cases t with
    | zero => simp
    | succ t =>
      have := ih t
      simp only [flatO, List.flatMap_cons, List.drop_succ_cons] at this ⊢
      rw [← this, show (t + 1) * 37 = 37 + t * 37 by omega, ← List.drop_drop, List.drop_left' (opL_len x)]
theorem flatO_get (l : List OpV) (t : Nat) (x : OpV) (ht : l[t]? = some x) (j : Nat) (v : Value) (hv : (opL x)[j]? = some v) : (flatO l)[t * 37 + j]? = some v := by
  rw [← List.getElem?_drop, flatO_drop]
  obtain ⟨h1, h2⟩ := List.getElem?_eq_some_iff.1 ht
  rw [List.drop_eq_getElem_cons h1, h2]
  simp only [flatO, List.flatMap_cons]
  rw [List.getElem?_append_left (List.getElem?_eq_some_iff.1 hv).1]
  exact hv
/-- Operations at the head of a block. -/
theorem ops_block {w : World} {g : Nat} {T : TypeId} {l : List OpV} {cs : Array Value} {cap : Nat} (h : Blk w g T cs) (hc : cs.toList.take (l.length * 37) = flatO l) (hcap : l.length ≤ cap) : OpsAt w (.slice (some ⟨g, 0, none⟩) l.length cap) l := by
  refine .inr ⟨g, 0, cap, rfl, hcap, fun i x hx j v hv => ?_⟩
  rw [Nat.zero_add, h.cell]
  have := flatO_get l i x hx j v hv
  rw [← hc, List.getElem?_take] at this
  split at this
  · simpa using this
  · cases this
theorem ops_new (w : World) (l : List OpV) : OpsAt (w.alloc (.cells (flatO l).toArray 33)) (.slice (some ⟨w.heap.size, 0, none⟩) l.length l.length) l :=
  ops_block (Blk.new w 33 _) (by rw [List.take_of_length_le (by rw [flatO_len]; omega)]) (Nat.le_refl _)
def xA : OpV := ⟨1, { data := #[107] }, { data := #[118] }, 0, z32, 0⟩
def xB : OpV := ⟨10, { data := #[] }, { data := #[] }, 0, z32, 0⟩
def xC : OpV := ⟨6, { data := #[107] }, { data := #[] }, -1, z32, 0⟩
theorem z32_len : z32.length = 32 := by decide
theorem z32_byts : Byts z32 := by unfold z32; intro c hc; rw [List.eq_of_mem_replicate hc]; decide
theorem xA_ok : OpOk xA := ⟨z32_len, z32_byts, by decide, by decide, by decide, by decide, by decide, by decide, by decide, by decide⟩
theorem xB_ok : OpOk xB := ⟨z32_len, z32_byts, by decide, by decide, by decide, by decide, by decide, by decide, by decide, by decide⟩
theorem xC_ok : OpOk xC := ⟨z32_len, z32_byts, by decide, by decide, by decide, by decide, by decide, by decide, by decide, by decide⟩
theorem bA : Try.prog.built 33 [(0, .int .i64 1), (1, .string { data := #[107] }), (2, .string { data := #[118] })] = some (opA xA) := by kernel_rfl
theorem bB : Try.prog.built 33 [(0, .int .i64 10)] = some (opA xB) := by kernel_rfl
theorem bC : Try.prog.built 33 [(0, .int .i64 6), (1, .string { data := #[107] }), (3, .int .i64 (-1))] = some (opA xC) := by kernel_rfl
theorem sAB (w : World) : (Instr.buildSlice 23 2 #[(0, .agg (opA xA)), (1, .agg (opA xB))]).run Try.prog w = .ok (.slice (some ⟨w.heap.size, 0, none⟩) 2 2) (w.alloc (.cells (flatO [xA, xB]).toArray 33)) := by kernel_rfl
theorem sC (w : World) : (Instr.buildSlice 23 1 #[(0, .agg (opA xC))]).run Try.prog w = .ok (.slice (some ⟨w.heap.size, 0, none⟩) 1 1) (w.alloc (.cells (flatO [xC]).toArray 33)) := by kernel_rfl
theorem cAB : chk [xA, xB] = (40, 1) := by kernel_rfl
theorem cC : chk [xC] = (0, 0) := by kernel_rfl
theorem fC : formL [xC] = [1, 6, 1, 107, 1] := by kernel_rfl
theorem stC : strOfNums [1, 6, 1, 107, 1] = { data := #[1, 6, 1, 107, 1] } := by kernel_rfl
set_option maxRecDepth 8000 in
set_option maxHeartbeats 1000000 in
theorem fixed_any (w : World) : Calls Try.prog 9 #[] w fun e w' => e = .returned (.bool true) ∧ Below w.heap.size w w' := by
  go_enter Try.func9, Try.ntmps9
  refine wp_seq_k fun K1 hK1 => ?_
  refine wp_region_list (WL.out ?_)
  refine WL.val (by kernel_rfl) (.bool false) (by go_simp) ?_
  simp only [Act.put, List.setIfInBounds_toArray, List.set_cons_zero, List.set_cons_succ]
  refine WL.nil ?_
  refine hK1 _ _ ?_
  refine wp_seq_k fun K2 hK2 => ?_
  refine wp_region_list (WL.out ?_)
  refine WL.bld (by kernel_rfl) 33 _ rfl _ (by simp [Act.eval]) (opA xA) bA ?_
  simp only [Act.put, List.setIfInBounds_toArray, List.set_cons_zero, List.set_cons_succ]
  refine WL.bld (by kernel_rfl) 33 _ rfl _ (by simp [Act.eval]) (opA xB) bB ?_
  simp only [Act.put, List.setIfInBounds_toArray, List.set_cons_zero, List.set_cons_succ]
  refine WL.bs (by kernel_rfl) 23 2 _ rfl #[(0, .agg (opA xA)), (1, .agg (opA xB))] (by simp [Act.eval]) _ _ (sAB w) ?_
  simp only [Act.put, List.setIfInBounds_toArray, List.set_cons_zero, List.set_cons_succ]
  refine WL.callF (by kernel_rfl) 10 _ _ rfl Try.in10 #[.slice (some ⟨w.heap.size, 0, none⟩) 2 2] (by simp [Act.eval]) ?_
  refine (check_any _ [xA, xB] _ (ops_new w [xA, xB]) (by intro x hx; simp at hx; rcases hx with rfl | rfl; exact xA_ok; exact xB_ok) (by decide)).mono ?_
  rintro e w1 ⟨rfl, h1⟩
  rw [cAB]
  refine ⟨_, rfl, ?_⟩
  have HB1 : Keep (Below w.heap.size w w1) := ⟨(below_new w _).trans (h1.mono (by simp))⟩
  clear h1
  simp only [Act.put, List.setIfInBounds_toArray, List.set_cons_zero, List.set_cons_succ]
  refine WL.val (by kernel_rfl) (.tuple #[.int .i64 40, .int .i64 1]) (by go_simp) ?_
  simp only [Act.put, List.setIfInBounds_toArray, List.set_cons_zero, List.set_cons_succ]
  refine WL.val (by kernel_rfl) (.int .i64 40) (by go_simp) ?_
  simp only [Act.put, List.setIfInBounds_toArray, List.set_cons_zero, List.set_cons_succ]
  refine WL.val (by kernel_rfl) (.int .i64 1) (by go_simp) ?_
  simp only [Act.put, List.setIfInBounds_toArray, List.set_cons_zero, List.set_cons_succ]
  refine WL.val (by kernel_rfl) (.int .i64 40) (by go_simp) ?_
  simp only [Act.put, List.setIfInBounds_toArray, List.set_cons_zero, List.set_cons_succ]
  refine WL.val (by kernel_rfl) (.int .i64 1) (by go_simp) ?_
  simp only [Act.put, List.setIfInBounds_toArray, List.set_cons_zero, List.set_cons_succ]
  refine WL.nil ?_
  refine hK2 _ _ ?_
  refine wp_seq_k fun K3 hK3 => ?_
  refine wp_region_list (WL.out ?_)
  refine WL.callF (by kernel_rfl) 16 _ _ rfl Try.in16 #[] (by simp) ?_
  refine (newOut_any w1).mono ?_
  rintro e w2 ⟨rfl, hw2⟩
  refine ⟨_, rfl, ?_⟩
  have HO2 : Keep (OutAt w2 w1.heap.size (.slice none 0 0) []) := ⟨by rw [hw2]; exact outAt_new w1⟩
  have HB2 : Keep (Below w.heap.size w w2) := ⟨by rw [hw2]; exact HB1.out.trans ((below_new w1 _).mono HB1.out.size)⟩
  have HLt : Keep (w1.heap.size < w2.heap.size) := ⟨HO2.out.blk.lt⟩
  have HLe := Keep.mk HB1.out.size
  clear hw2 HB1
  obtain ⟨p, hp⟩ : ∃ p, Keep (p = w1.heap.size) := ⟨_, ⟨rfl⟩⟩
  rw [← hp.out] at HO2 HLt HLe ⊢
  simp only [Act.put, List.setIfInBounds_toArray, List.set_cons_zero, List.set_cons_succ]
  refine WL.val (by kernel_rfl) (.pointer (some ⟨p, 0, none⟩)) (by go_simp) ?_
  simp only [Act.put, List.setIfInBounds_toArray, List.set_cons_zero, List.set_cons_succ]
  refine WL.nil ?_
  refine hK3 _ _ ?_
  refine wp_seq_k fun K4 hK4 => ?_
  refine wp_seq_k fun K5 hK5 => ?_
  refine wp_region_list (WL.out ?_)
  refine WL.val (by kernel_rfl) (.pointer (some ⟨p, 0, none⟩)) (by go_simp) ?_
  simp only [Act.put, List.setIfInBounds_toArray, List.set_cons_zero, List.set_cons_succ]
  refine WL.val (by kernel_rfl) (.bool false) (by go_simp) ?_
  simp only [Act.put, List.setIfInBounds_toArray, List.set_cons_zero, List.set_cons_succ]
  refine WL.nil ?_
  refine hK5 _ _ ?_
  refine wp_cond_false rfl ?_
  refine wp_skip ?_
  refine hK4 _ _ ?_
  refine wp_seq_k fun K6 hK6 => ?_
  refine wp_region_list (WL.out ?_)
  refine WL.val (by kernel_rfl) (.pointer (some ⟨p, 0, none⟩)) (by go_simp) ?_
  simp only [Act.put, List.setIfInBounds_toArray, List.set_cons_zero, List.set_cons_succ]
  refine WL.bld (by kernel_rfl) 33 _ rfl _ (by simp [Act.eval]) (opA xC) bC ?_
  simp only [Act.put, List.setIfInBounds_toArray, List.set_cons_zero, List.set_cons_succ]
  refine WL.bs (by kernel_rfl) 23 1 _ rfl #[(0, .agg (opA xC))] (by simp [Act.eval]) _ _ (sC w2) ?_
  simp only [Act.put, List.setIfInBounds_toArray, List.set_cons_zero, List.set_cons_succ]
  refine WL.callF (by kernel_rfl) 18 _ _ rfl Try.in18 #[ptr p, .slice (some ⟨w2.heap.size, 0, none⟩) 1 1] (by simp [Act.eval]) ?_
  refine (put_any p (.slice none 0 0) [] _ [xC] _ (HO2.out.box _) (ops_new w2 [xC]) (by intro x hx; simp at hx; subst hx; exact xC_ok) (by decide) ?_ ?_).mono ?_
  · intro k hk ho
    simp [Value.ownBlock] at hk
    rcases ho with ho | ho
    · have := HLt.out; omega
    · simp [Value.ownBlock] at ho
  · intro _; rw [fC]; decide
  rintro e w3 ⟨rfl, v3, h3, h4, h5⟩
  rw [cC] at h3 ⊢
  refine ⟨_, rfl, ?_⟩
  rw [if_pos rfl, fC, List.nil_append] at h3
  have HO3 := Keep.mk h3
  have HB3 : Keep (Below w.heap.size w w3) := ⟨⟨h5.os.trans HB2.out.os, h5.tape.trans HB2.out.tape, h5.output.trans HB2.out.output, Nat.le_trans HB2.out.size (Nat.le_trans (by simp) h5.size), fun j hj => by
    rw [h5.block j (by have := HB2.out.size; simp; omega) (by
      rintro (ho | ho)
      · have := HLe.out; omega
      · simp [Value.ownBlock] at ho), Below.heap_alloc w2 _ j (Nat.lt_of_lt_of_le hj HB2.out.size)]
    exact HB2.out.block j hj⟩⟩
  clear h3 h4 h5
  simp only [Act.put, List.setIfInBounds_toArray, List.set_cons_zero, List.set_cons_succ]
  refine WL.val (by kernel_rfl) (.int .i64 0) (by go_simp) ?_
  simp only [Act.put, List.setIfInBounds_toArray, List.set_cons_zero, List.set_cons_succ]
  refine WL.nil ?_
  refine hK6 _ _ ?_
  refine wp_seq_k fun K7 hK7 => ?_
  refine wp_region_list (WL.out ?_)
  refine WL.val (by kernel_rfl) (.int .i64 40) (by go_simp) ?_
  simp only [Act.put, List.setIfInBounds_toArray, List.set_cons_zero, List.set_cons_succ]
  refine WL.val (by kernel_rfl) (.bool true) (by go_simp) ?_
  simp only [Act.put, List.setIfInBounds_toArray, List.set_cons_zero, List.set_cons_succ]
  refine WL.val (by kernel_rfl) (.bool true) (by go_simp) ?_
  simp only [Act.put, List.setIfInBounds_toArray, List.set_cons_zero, List.set_cons_succ]
  refine WL.val (by kernel_rfl) (.int .i64 1) (by go_simp) ?_
  simp only [Act.put, List.setIfInBounds_toArray, List.set_cons_zero, List.set_cons_succ]
  refine WL.val (by kernel_rfl) (.bool true) (by go_simp) ?_
  simp only [Act.put, List.setIfInBounds_toArray, List.set_cons_zero, List.set_cons_succ]
  refine WL.val (by kernel_rfl) (.bool true) (by go_simp) ?_
  simp only [Act.put, List.setIfInBounds_toArray, List.set_cons_zero, List.set_cons_succ]
  refine WL.val (by kernel_rfl) (.bool true) (by go_simp) ?_
  simp only [Act.put, List.setIfInBounds_toArray, List.set_cons_zero, List.set_cons_succ]
  refine WL.val (by kernel_rfl) (.int .i64 0) (by go_simp) ?_
  simp only [Act.put, List.setIfInBounds_toArray, List.set_cons_zero, List.set_cons_succ]
  refine WL.val (by kernel_rfl) (.bool true) (by go_simp) ?_
  simp only [Act.put, List.setIfInBounds_toArray, List.set_cons_zero, List.set_cons_succ]
  refine WL.val (by kernel_rfl) (.bool true) (by go_simp) ?_
  simp only [Act.put, List.setIfInBounds_toArray, List.set_cons_zero, List.set_cons_succ]
  refine WL.val (by kernel_rfl) (.bool true) (by go_simp) ?_
  simp only [Act.put, List.setIfInBounds_toArray, List.set_cons_zero, List.set_cons_succ]
  refine WL.val (by kernel_rfl) (.pointer (some ⟨p, 0, none⟩)) (by go_simp) ?_
  simp only [Act.put, List.setIfInBounds_toArray, List.set_cons_zero, List.set_cons_succ]
  refine WL.callF (by kernel_rfl) 20 _ _ rfl Try.in20 #[ptr p] (by simp [Act.eval]) ?_
  refine (odone_any p v3 _ w3 HO3.out (by decide)).mono ?_
  rintro e w4 ⟨rfl, hw4⟩
  refine ⟨_, rfl, ?_⟩
  have hcv : (convert 36 9 (.slice (some ⟨w3.heap.size, 0, none⟩) 5 5)).run Try.prog w4 = .ok (.string { data := #[1, 6, 1, 107, 1] }) w4 := by
    have h := conv_row _ _ w4 (by rw [hw4]; exact (own_done w3 [1, 6, 1, 107, 1] (by decide)).row)
    rw [stC] at h
    exact h
  have HB4 : Keep (Below w.heap.size w w4) := ⟨by rw [hw4]; exact HB3.out.trans ((below_new w3 _).mono HB3.out.size)⟩
  clear hw4
  simp only [Act.put, List.setIfInBounds_toArray, List.set_cons_zero, List.set_cons_succ]
  refine WL.val (by kernel_rfl) (.string { data := #[1, 6, 1, 107, 1] }) (by go_simp) ?_
  simp only [Act.put, List.setIfInBounds_toArray, List.set_cons_zero, List.set_cons_succ]
  refine WL.val (by kernel_rfl) (.bool true) (by go_simp) ?_
  simp only [Act.put, List.setIfInBounds_toArray, List.set_cons_zero, List.set_cons_succ]
  refine WL.val (by kernel_rfl) (.bool true) (by go_simp) ?_
  simp only [Act.put, List.setIfInBounds_toArray, List.set_cons_zero, List.set_cons_succ]
  refine WL.val (by kernel_rfl) (.bool true) (by go_simp) ?_
  simp only [Act.put, List.setIfInBounds_toArray, List.set_cons_zero, List.set_cons_succ]
  refine WL.nil ?_
  refine hK7 _ _ ?_
  refine wp_ret ?_
  go_ret
  exact ⟨rfl, HB4.out⟩
theorem names_any (w : World) : Calls Try.prog 3 #[] w fun e w' => e = .returned (.bool true) ∧ Below w.heap.size w w' := by
  go_enter Try.func3, Try.ntmps3
  refine wp_seq_k fun K1 hK1 => ?_
  refine wp_region_list (WL.out ?_)
  refine WL.val (by kernel_rfl) (.bool false) (by go_simp) ?_
  simp only [Act.put, List.setIfInBounds_toArray, List.set_cons_zero, List.set_cons_succ]
  refine WL.nil ?_
  refine hK1 _ _ ?_
  refine wp_seq_k fun K2 hK2 => ?_
  refine wp_region_list (WL.out ?_)
  refine WL.val (by kernel_rfl) (.bool true) (by go_simp) ?_
  simp only [Act.put, List.setIfInBounds_toArray, List.set_cons_zero, List.set_cons_succ]
  refine WL.nil ?_
  refine hK2 _ _ ?_
  refine wp_seq_k fun K3 hK3 => ?_
  refine wp_region_list (WL.out ?_)
  refine WL.val (by kernel_rfl) (.bool true) (by go_simp) ?_
  simp only [Act.put, List.setIfInBounds_toArray, List.set_cons_zero, List.set_cons_succ]
  refine WL.nil ?_
  refine hK3 _ _ ?_
  refine wp_seq_k fun K4 hK4 => ?_
  refine wp_region_list (WL.out ?_)
  refine WL.val (by kernel_rfl) (.bool true) (by go_simp) ?_
  simp only [Act.put, List.setIfInBounds_toArray, List.set_cons_zero, List.set_cons_succ]
  refine WL.nil ?_
  refine hK4 _ _ ?_
  refine wp_seq_k fun K5 hK5 => ?_
  refine wp_region_list (WL.out ?_)
  refine WL.val (by kernel_rfl) (.bool true) (by go_simp) ?_
  simp only [Act.put, List.setIfInBounds_toArray, List.set_cons_zero, List.set_cons_succ]
  refine WL.val (by kernel_rfl) (.bool true) (by go_simp) ?_
  simp only [Act.put, List.setIfInBounds_toArray, List.set_cons_zero, List.set_cons_succ]
  refine WL.val (by kernel_rfl) (.bool true) (by go_simp) ?_
  simp only [Act.put, List.setIfInBounds_toArray, List.set_cons_zero, List.set_cons_succ]
  refine WL.val (by kernel_rfl) (.bool true) (by go_simp) ?_
  simp only [Act.put, List.setIfInBounds_toArray, List.set_cons_zero, List.set_cons_succ]
  refine WL.val (by kernel_rfl) (.bool true) (by go_simp) ?_
  simp only [Act.put, List.setIfInBounds_toArray, List.set_cons_zero, List.set_cons_succ]
  refine WL.val (by kernel_rfl) (.bool true) (by go_simp) ?_
  simp only [Act.put, List.setIfInBounds_toArray, List.set_cons_zero, List.set_cons_succ]
  refine WL.val (by kernel_rfl) (.bool true) (by go_simp) ?_
  simp only [Act.put, List.setIfInBounds_toArray, List.set_cons_zero, List.set_cons_succ]
  refine WL.val (by kernel_rfl) (.bool true) (by go_simp) ?_
  simp only [Act.put, List.setIfInBounds_toArray, List.set_cons_zero, List.set_cons_succ]
  refine WL.val (by kernel_rfl) (.bool true) (by go_simp) ?_
  simp only [Act.put, List.setIfInBounds_toArray, List.set_cons_zero, List.set_cons_succ]
  refine WL.val (by kernel_rfl) (.bool true) (by go_simp) ?_
  simp only [Act.put, List.setIfInBounds_toArray, List.set_cons_zero, List.set_cons_succ]
  refine WL.val (by kernel_rfl) (.bool true) (by go_simp) ?_
  simp only [Act.put, List.setIfInBounds_toArray, List.set_cons_zero, List.set_cons_succ]
  refine WL.val (by kernel_rfl) (.bool true) (by go_simp) ?_
  simp only [Act.put, List.setIfInBounds_toArray, List.set_cons_zero, List.set_cons_succ]
  refine WL.val (by kernel_rfl) (.bool true) (by go_simp) ?_
  simp only [Act.put, List.setIfInBounds_toArray, List.set_cons_zero, List.set_cons_succ]
  refine WL.val (by kernel_rfl) (.bool true) (by go_simp) ?_
  simp only [Act.put, List.setIfInBounds_toArray, List.set_cons_zero, List.set_cons_succ]
  refine WL.callF (by kernel_rfl) 9 _ _ rfl Try.in9 #[] (by simp) ?_
  refine (fixed_any w).mono ?_
  rintro e w1 ⟨rfl, h1⟩
  refine ⟨_, rfl, ?_⟩
  simp only [Act.put, List.setIfInBounds_toArray, List.set_cons_zero, List.set_cons_succ]
  refine WL.val (by kernel_rfl) (.bool true) (by go_simp) ?_
  simp only [Act.put, List.setIfInBounds_toArray, List.set_cons_zero, List.set_cons_succ]
  refine WL.val (by kernel_rfl) (.bool true) (by go_simp) ?_
  simp only [Act.put, List.setIfInBounds_toArray, List.set_cons_zero, List.set_cons_succ]
  refine WL.nil ?_
  refine hK5 _ _ ?_
  refine wp_ret ?_
  go_ret
  exact ⟨rfl, h1⟩
end Go.Proofs.Ytbkboebinhafhaa
