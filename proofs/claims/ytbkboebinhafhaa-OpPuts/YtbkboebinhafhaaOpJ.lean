import Derived.Test.YtbkboebinhafhaaOpI
namespace Go.Proofs.Ytbkboebinhafhaa
open Go.RowKit
set_option linter.unusedSimpArgs false

theorem Try.new31 (w : World) : (Instr.alloc 31 true (.tuple #[])).run Try.prog w = .ok (.pointer (some ⟨w.heap.size, 0, none⟩)) (w.alloc (.cells (idA z32 0) 31)) := by kernel_rfl
theorem idA_sizes (c e : List Int) (o p : Int) : (idA c o).size = (idA e p).size := by rw [idA_size, idA_size]
theorem idA_32 (c : List Int) (o : Int) : (idA c o)[32]? = some (.int .i64 o) := by unfold idA; rw [List.getElem?_toArray]; exact idL_op c o
theorem opL_range {w : World} {g of : Nat} {x : OpV} (h : w.rangeAt g of (opL x)) : w.rangeAt g (of + 4) (idA x.node x.op).toList := fun j v hv => by
  have := h (4 + j) v (by rw [← List.getElem?_drop, opL_at]; exact hv)
  rw [← Nat.add_assoc] at this; exact this
set_option maxRecDepth 8000 in
set_option maxHeartbeats 2000000 in
theorem rmay_any (v : Value) (l : List OpV) (i : Nat) (w : World) (hl : OpsAt w v l) (hi : i < l.length) (hb : l.length ≤ 4398046511104) (hok : OpOk (l.getD i zeroOp)) :
    Calls Try.prog 57 #[v, .int .i64 (i : Int)] w fun e w' => e = .returned (.bool (mayAt (l.take i) (l.getD i zeroOp))) ∧ Below w.heap.size w w' := by
  obtain ⟨va, vc, rfl⟩ := hl.form
  obtain ⟨gL, ofL, hva, hr⟩ := hl.at hi
  obtain ⟨R, hR⟩ : ∃ R, R = mayAt (l.take i) (l.getD i zeroOp) := ⟨_, rfl⟩
  rw [← hR]
  generalize l.getD i zeroOp = x at *
  unfold mayAt at hR
  have HM := Keep.mk hR
  have HRx := Keep.mk hr
  have HRi := Keep.mk (opL_range hr)
  have Hi := Keep.mk hi
  have Hlt : Keep ((l.take i).length = i) := ⟨by rw [List.length_take]; omega⟩
  have hi' : (i : Int) < (l.length : Int) := by omega
  have hb' : (l.length : Int) ≤ 4398046511104 := by omega
  have he := run_eqlH x.node z32
  have ho1 := hok.o1
  have ho2 := hok.o2
  have HA := Keep.mk ((Blk.new w 31 (idA z32 0)).setRow (idA x.node x.op))
  have HW1 : Keep (Below w.heap.size w ((w.alloc (.cells (idA z32 0) 31)).setRow w.heap.size (idA x.node x.op))) := ⟨below_setRow (below_new w _) (Nat.le_refl _) _⟩
  have hL1 := hl.below HW1.out
  obtain ⟨w1, hw1⟩ : ∃ w1, Keep ((w.alloc (.cells (idA z32 0) 31)).setRow w.heap.size (idA x.node x.op) = w1) := ⟨_, ⟨rfl⟩⟩
  rw [hw1.out] at HA HW1 hL1
  have HL1 := Keep.mk hL1
  have c32 := HA.out.c 32 (idA_32 _ _)
  have hrx1 := range_grown hr (Grown.below (S := fun _ => False) HW1.out) (fun h => h)
  have ck : w1.cell? ⟨gL, ofL + i * 37, none⟩ = some (.int .i64 x.kind) := hrx1 0 _ (by simp [opL])
  clear hl hi hb hok hr hR hL1 hrx1
  go_enter Try.func57, Try.ntmps57
  refine wp_seq_k fun K1 hK1 => ?_
  refine wp_region_list (WL.out ?_)
  refine WL.val (by kernel_rfl) (.bool false) (by go_simp) ?_
  simp only [Act.put, List.setIfInBounds_toArray, List.set_cons_zero, List.set_cons_succ]
  refine WL.nil ?_
  refine hK1 _ _ ?_
  refine wp_seq_k fun K2 hK2 => ?_
  refine wp_region_list (WL.out ?_)
  refine WL.val (by kernel_rfl) (.slice va l.length vc) (by go_simp) ?_
  simp only [Act.put, List.setIfInBounds_toArray, List.set_cons_zero, List.set_cons_succ]
  refine WL.val (by kernel_rfl) (.int .i64 (i : Int)) (by go_simp) ?_
  simp only [Act.put, List.setIfInBounds_toArray, List.set_cons_zero, List.set_cons_succ]
  refine WL.val (by kernel_rfl) (.pointer (some ⟨gL, ofL + i * 37, none⟩)) (by go_simp) ?_
  simp only [Act.put, List.setIfInBounds_toArray, List.set_cons_zero, List.set_cons_succ]
  refine WL.val (by kernel_rfl) (.pointer (some ⟨gL, ofL + i * 37 + 4, none⟩)) (by go_simp) ?_
  simp only [Act.put, List.setIfInBounds_toArray, List.set_cons_zero, List.set_cons_succ]
  refine WL.midA (by kernel_rfl) 31 (.tmp 11) rfl gL (ofL + i * 37 + 4) rfl (idA x.node x.op) _ HRi.out Try.underlying31 rfl (Try.size31B _ _) ?_
  simp only [Act.put, List.setIfInBounds_toArray, List.set_cons_zero, List.set_cons_succ]
  refine WL.new (by kernel_rfl) 31 rfl _ Try.new31 ?_
  simp only [Act.put, List.setIfInBounds_toArray, List.set_cons_zero, List.set_cons_succ]
  refine WL.storeR (by kernel_rfl) 31 (.tmp 5) (.tmp 12) rfl w.heap.size (idA x.node x.op) rfl rfl 31 (idA z32 0) (Blk.new w 31 _) (Try.size31B _ _) (idA_sizes _ _ _ _) (idA_one _ _) ?_
  rw [hw1.out]
  simp only [Act.put]
  refine WL.nil ?_
  refine hK2 _ _ ?_
  refine wp_seq_k fun K3 hK3 => ?_
  refine wp_region_list (WL.out ?_)
  refine WL.val (by kernel_rfl) (.pointer (some ⟨w.heap.size, 0, none⟩)) (by go_simp) ?_
  simp only [Act.put, List.setIfInBounds_toArray, List.set_cons_zero, List.set_cons_succ]
  refine WL.midA (by kernel_rfl) 29 (.tmp 13) rfl w.heap.size 0 rfl (bytesA 32 (hof x.node)) _ (idA_range HA.out) Try.underlying29 rfl (Try.size29B _) ?_
  simp only [Act.put, List.setIfInBounds_toArray, List.set_cons_zero, List.set_cons_succ]
  refine WL.bld (by kernel_rfl) 29 _ rfl [] (by simp) (bytesA 32 (hof z32)) Try.built29 ?_
  simp only [Act.put, List.setIfInBounds_toArray, List.set_cons_zero, List.set_cons_succ]
  rcases Bool.eq_false_or_eq_true (nd x.node z32) with h2_3 | h2_3
  · rw [h2_3] at he HM
    refine WL.val (by kernel_rfl) (.bool true) (by go_simp) ?_
    simp only [Act.put, List.setIfInBounds_toArray, List.set_cons_zero, List.set_cons_succ]
    refine WL.val (by kernel_rfl) (.bool true) (by go_simp) ?_
    simp only [Act.put, List.setIfInBounds_toArray, List.set_cons_zero, List.set_cons_succ]
    refine WL.nil ?_
    refine hK3 _ _ ?_
    refine wp_seq_k fun K4 hK4 => ?_
    refine wp_block ?_
    refine wp_seq_k fun K5 hK5 => ?_
    refine wp_region_list (WL.out ?_)
    refine WL.val (by kernel_rfl) (.bool true) (by go_simp) ?_
    simp only [Act.put, List.setIfInBounds_toArray, List.set_cons_zero, List.set_cons_succ]
    refine WL.val (by kernel_rfl) (.bool true) (by go_simp) ?_
    simp only [Act.put, List.setIfInBounds_toArray, List.set_cons_zero, List.set_cons_succ]
    refine WL.val (by kernel_rfl) (.pointer (some ⟨w.heap.size, 32, none⟩)) (by go_simp) ?_
    simp only [Act.put, List.setIfInBounds_toArray, List.set_cons_zero, List.set_cons_succ]
    refine WL.val (by kernel_rfl) (.int .i64 x.op) (by go_simp) ?_
    simp only [Act.put, List.setIfInBounds_toArray, List.set_cons_zero, List.set_cons_succ]
    by_cases h3_4 : x.op = 0
    · skip
      refine WL.val (by kernel_rfl) (.bool true) (by go_simp) ?_
      simp only [Act.put, List.setIfInBounds_toArray, List.set_cons_zero, List.set_cons_succ]
      refine WL.val (by kernel_rfl) (.bool true) (by go_simp) ?_
      simp only [Act.put, List.setIfInBounds_toArray, List.set_cons_zero, List.set_cons_succ]
      refine WL.val (by kernel_rfl) (.bool true) (by go_simp) ?_
      simp only [Act.put, List.setIfInBounds_toArray, List.set_cons_zero, List.set_cons_succ]
      refine WL.nil ?_
      refine hK5 _ _ ?_
      refine wp_cond_true rfl ?_
      refine wp_seq_k fun K6 hK6 => ?_
      refine wp_region_list (WL.out ?_)
      refine WL.val (by kernel_rfl) (.slice va l.length vc) (by go_simp) ?_
      simp only [Act.put, List.setIfInBounds_toArray, List.set_cons_zero, List.set_cons_succ]
      refine WL.val (by kernel_rfl) (.int .i64 (i : Int)) (by go_simp) ?_
      simp only [Act.put, List.setIfInBounds_toArray, List.set_cons_zero, List.set_cons_succ]
      refine WL.val (by kernel_rfl) (.pointer (some ⟨gL, ofL + i * 37, none⟩)) (by go_simp) ?_
      simp only [Act.put, List.setIfInBounds_toArray, List.set_cons_zero, List.set_cons_succ]
      refine WL.val (by kernel_rfl) (.pointer (some ⟨gL, ofL + i * 37, none⟩)) (by go_simp) ?_
      simp only [Act.put, List.setIfInBounds_toArray, List.set_cons_zero, List.set_cons_succ]
      refine WL.val (by kernel_rfl) (.int .i64 x.kind) (by go_simp) ?_
      simp only [Act.put, List.setIfInBounds_toArray, List.set_cons_zero, List.set_cons_succ]
      refine WL.val (by kernel_rfl) (.bool (x.kind == 8)) (by go_simp) ?_
      simp only [Act.put, List.setIfInBounds_toArray, List.set_cons_zero, List.set_cons_succ]
      refine WL.val (by kernel_rfl) (.bool (x.kind == 8)) (by go_simp) ?_
      simp only [Act.put, List.setIfInBounds_toArray, List.set_cons_zero, List.set_cons_succ]
      refine WL.nil ?_
      refine hK6 _ _ ?_
      refine wp_ret ?_
      go_ret
      exact ⟨by rw [HM.out, if_pos (by simp; omega)]; rfl, HW1.out⟩
    · skip
      refine WL.val (by kernel_rfl) (.bool false) (by go_simp) ?_
      simp only [Act.put, List.setIfInBounds_toArray, List.set_cons_zero, List.set_cons_succ]
      refine WL.val (by kernel_rfl) (.bool false) (by go_simp) ?_
      simp only [Act.put, List.setIfInBounds_toArray, List.set_cons_zero, List.set_cons_succ]
      refine WL.val (by kernel_rfl) (.bool false) (by go_simp) ?_
      simp only [Act.put, List.setIfInBounds_toArray, List.set_cons_zero, List.set_cons_succ]
      refine WL.nil ?_
      refine hK5 _ _ ?_
      refine wp_cond_false rfl ?_
      refine wp_seq_k fun K7 hK7 => ?_
      refine wp_region_list (WL.out ?_)
      refine WL.val (by kernel_rfl) (.bool true) (by go_simp) ?_
      simp only [Act.put, List.setIfInBounds_toArray, List.set_cons_zero, List.set_cons_succ]
      refine WL.val (by kernel_rfl) (.bool true) (by go_simp) ?_
      simp only [Act.put, List.setIfInBounds_toArray, List.set_cons_zero, List.set_cons_succ]
      refine WL.val (by kernel_rfl) (.pointer (some ⟨w.heap.size, 32, none⟩)) (by go_simp) ?_
      simp only [Act.put, List.setIfInBounds_toArray, List.set_cons_zero, List.set_cons_succ]
      refine WL.val (by kernel_rfl) (.int .i64 x.op) (by go_simp) ?_
      simp only [Act.put, List.setIfInBounds_toArray, List.set_cons_zero, List.set_cons_succ]
      by_cases h5_4 : 1 ≤ x.op
      · skip
        refine WL.val (by kernel_rfl) (.bool true) (by go_simp) ?_
        simp only [Act.put, List.setIfInBounds_toArray, List.set_cons_zero, List.set_cons_succ]
        refine WL.val (by kernel_rfl) (.bool true) (by go_simp) ?_
        simp only [Act.put, List.setIfInBounds_toArray, List.set_cons_zero, List.set_cons_succ]
        refine WL.val (by kernel_rfl) (.bool true) (by go_simp) ?_
        simp only [Act.put, List.setIfInBounds_toArray, List.set_cons_zero, List.set_cons_succ]
        refine WL.val (by kernel_rfl) (.pointer (some ⟨w.heap.size, 32, none⟩)) (by go_simp) ?_
        simp only [Act.put, List.setIfInBounds_toArray, List.set_cons_zero, List.set_cons_succ]
        refine WL.val (by kernel_rfl) (.int .i64 x.op) (by go_simp) ?_
        simp only [Act.put, List.setIfInBounds_toArray, List.set_cons_zero, List.set_cons_succ]
        refine WL.val (by kernel_rfl) (.int .i64 (i : Int)) (by go_simp) ?_
        simp only [Act.put, List.setIfInBounds_toArray, List.set_cons_zero, List.set_cons_succ]
        by_cases h5_10 : x.op ≤ (i : Int)
        · skip
          refine WL.val (by kernel_rfl) (.bool true) (by go_simp) ?_
          simp only [Act.put, List.setIfInBounds_toArray, List.set_cons_zero, List.set_cons_succ]
          refine WL.val (by kernel_rfl) (.bool true) (by go_simp) ?_
          simp only [Act.put, List.setIfInBounds_toArray, List.set_cons_zero, List.set_cons_succ]
          refine WL.val (by kernel_rfl) (.bool true) (by go_simp) ?_
          simp only [Act.put, List.setIfInBounds_toArray, List.set_cons_zero, List.set_cons_succ]
          refine WL.nil ?_
          refine hK7 _ _ ?_
          refine wp_cond_true rfl ?_
          refine wp_seq_k fun K8 hK8 => ?_
          refine wp_region_list (WL.out ?_)
          refine WL.val (by kernel_rfl) (.slice va l.length vc) (by go_simp) ?_
          simp only [Act.put, List.setIfInBounds_toArray, List.set_cons_zero, List.set_cons_succ]
          refine WL.val (by kernel_rfl) (.pointer (some ⟨w.heap.size, 32, none⟩)) (by go_simp) ?_
          simp only [Act.put, List.setIfInBounds_toArray, List.set_cons_zero, List.set_cons_succ]
          refine WL.val (by kernel_rfl) (.int .i64 x.op) (by go_simp) ?_
          simp only [Act.put, List.setIfInBounds_toArray, List.set_cons_zero, List.set_cons_succ]
          have hws : IntKind.i64.wrap (x.op - 1) = x.op - 1 := by rw [IntKind.wrap_i64]; omega
          refine WL.val (by kernel_rfl) (.int .i64 (x.op - 1)) (by go_simp) ?_
          simp only [Act.put, List.setIfInBounds_toArray, List.set_cons_zero, List.set_cons_succ]
          obtain ⟨t, ht⟩ : ∃ t : Nat, x.op = (t : Int) + 1 := ⟨(x.op - 1).toNat, by omega⟩
          have hti : t < i := by omega
          obtain ⟨g2, of2, hva2, hr2⟩ := HL1.out.at (show t < l.length by have := Hi.out; omega)
          obtain ⟨e1, e2⟩ : g2 = gL ∧ of2 = ofL := by rw [hva] at hva2; simp at hva2; exact ⟨hva2.1.symm, hva2.2.symm⟩
          subst e1 e2
          have htn : (x.op - 1) = (t : Int) := by omega
          rw [show x.op - 1 = (t : Int) from htn]
          have HR2 := Keep.mk hr2
          obtain ⟨it, hit⟩ : ∃ it, Keep (it = l.getD t zeroOp) := ⟨_, ⟨rfl⟩⟩
          rw [← hit.out] at HR2
          have hlt : t < l.length := by have := Hi.out; omega
          have hlt' : (t : Int) < (l.length : Int) := by omega
          clear hr2 hva2 htn
          refine WL.val (by kernel_rfl) (.pointer (some ⟨g2, of2 + t * 37, none⟩)) (by go_simp) ?_
          simp only [Act.put, List.setIfInBounds_toArray, List.set_cons_zero, List.set_cons_succ]
          refine WL.mid (by kernel_rfl) 33 (.tmp 47) rfl g2 (of2 + t * 37) rfl (opL it) _ HR2.out Try.underlying33 rfl (Try.size33L it) ?_
          rw [rng_load]
          simp only [Act.put, List.setIfInBounds_toArray, List.set_cons_zero, List.set_cons_succ]
          refine WL.new (by kernel_rfl) 33 rfl _ Try.new33 ?_
          simp only [Act.put, List.setIfInBounds_toArray, List.set_cons_zero, List.set_cons_succ]
          refine WL.storeR (by kernel_rfl) 33 (.tmp 7) (.tmp 48) rfl w1.heap.size (opA it) rfl rfl 33 (opA zeroOp) (Blk.new w1 33 _) (Try.size33B it) (opA_sizes _ _) (opA_one it) ?_
          have HX := Keep.mk ((Blk.new w1 33 (opA zeroOp)).setRow (opA it))
          have HG : Keep (Below w1.heap.size w1 ((w1.alloc (.cells (opA zeroOp) 33)).setRow w1.heap.size (opA it))) := ⟨below_setRow (below_new w1 _) (Nat.le_refl _) _⟩
          generalize (w1.alloc (.cells (opA zeroOp) 33)).setRow w1.heap.size (opA it) = w2 at *
          have HS2 : Keep (w2.drew.cell? ⟨w1.heap.size, 0, none⟩ = some (.int .i64 it.kind) ∧ w2.drew.cell? ⟨w1.heap.size, 1, none⟩ = some (.string it.key) ∧ w2.drew.cell? ⟨g2, of2 + i * 37 + 1, none⟩ = some (.string x.key)) := ⟨HX.out.drew.c 0 (opA_0 it), HX.out.drew.c 1 (opA_1 it), by
            have h := range_grown HRx.out (Grown.below (S := fun _ => False) ((HW1.out.trans (HG.out.mono HW1.out.size)))) (fun h => h)
            exact h 1 _ (by simp [opL])⟩
          simp only [Act.put]
          refine WL.nil ?_
          refine hK8 _ _ ?_
          refine wp_seq_k fun K9 hK9 => ?_
          by_cases hk8 : it.kind = 8
          · skip
            refine wp_region_held_drew (S := fun wx => wx.cell? ⟨w1.heap.size, 0, none⟩ = some (.int .i64 it.kind) ∧ wx.cell? ⟨w1.heap.size, 1, none⟩ = some (.string it.key) ∧ wx.cell? ⟨g2, of2 + i * 37 + 1, none⟩ = some (.string x.key)) (by kernel_rfl) (HS2.out) (fun hHeld => ?_)
            refine wpAnyH_take (i := 0) (oi := ⟨some 49, Op.fieldAddr 33 (Operand.tmp 7) 0, 0, _, _, none⟩) (v := .pointer (some ⟨w1.heap.size, 0, none⟩)) rfl (by kernel_rfl) (by kernel_rfl) (by kernel_rfl) (fun _ _ _ h => h) (Or.inl ⟨by rfl, fun w hS => by obtain ⟨hs1, hs2, hs3⟩ := hS; go_simp⟩) hHeld ?_
            simp only [Act.put, List.setIfInBounds_toArray, List.set_cons_zero, List.set_cons_succ]
            refine wpAnyH_take (i := 1) (oi := ⟨some 50, Op.load 3 (Operand.tmp 49), 3, _, _, none⟩) (v := .int .i64 it.kind) rfl (by kernel_rfl) (by kernel_rfl) (by kernel_rfl) (fun _ _ _ h => h) (Or.inl ⟨by rfl, fun w hS => by obtain ⟨hs1, hs2, hs3⟩ := hS; go_simp⟩) hHeld ?_
            simp only [Act.put, List.setIfInBounds_toArray, List.set_cons_zero, List.set_cons_succ]
            refine wpAnyH_take (i := 2) (oi := ⟨some 51, Op.binOp BinOp.eql 3 (Operand.tmp 50) (Operand.const (Value.int IntKind.i64 8)) 3, 4, _, _, none⟩) (v := .bool true) rfl (by kernel_rfl) (by kernel_rfl) (by kernel_rfl) (fun _ _ _ h => h) (Or.inl ⟨by rfl, fun w hS => by obtain ⟨hs1, hs2, hs3⟩ := hS; go_simp⟩) hHeld ?_
            simp only [Act.put, List.setIfInBounds_toArray, List.set_cons_zero, List.set_cons_succ]
            refine wpAnyH_take (i := 3) (oi := ⟨some 52, Op.move (Operand.tmp 51), 4, _, _, none⟩) (v := .bool true) rfl (by kernel_rfl) (by kernel_rfl) (by kernel_rfl) (fun _ _ _ h => h) (Or.inl ⟨by rfl, fun w hS => by obtain ⟨hs1, hs2, hs3⟩ := hS; go_simp⟩) hHeld ?_
            simp only [Act.put, List.setIfInBounds_toArray, List.set_cons_zero, List.set_cons_succ]
            refine wpAnyH_take (i := 4) (oi := ⟨some 53, Op.fieldAddr 33 (Operand.tmp 7) 1, 0, _, _, some (3, true)⟩) (v := .pointer (some ⟨w1.heap.size, 1, none⟩)) rfl (by kernel_rfl) (by kernel_rfl) (by kernel_rfl) (fun _ _ _ h => h) (Or.inl ⟨by rfl, fun w hS => by obtain ⟨hs1, hs2, hs3⟩ := hS; go_simp⟩) hHeld ?_
            simp only [Act.put, List.setIfInBounds_toArray, List.set_cons_zero, List.set_cons_succ]
            refine wpAnyH_take (i := 5) (oi := ⟨some 54, Op.load 9 (Operand.tmp 53), 9, _, _, some (3, true)⟩) (v := .string it.key) rfl (by kernel_rfl) (by kernel_rfl) (by kernel_rfl) (fun _ _ _ h => h) (Or.inl ⟨by rfl, fun w hS => by obtain ⟨hs1, hs2, hs3⟩ := hS; go_simp⟩) hHeld ?_
            simp only [Act.put, List.setIfInBounds_toArray, List.set_cons_zero, List.set_cons_succ]
            refine wpAnyH_take (i := 6) (oi := ⟨some 55, Op.move (Operand.tmp 0), 23, _, _, some (3, true)⟩) (v := .slice va l.length vc) rfl (by kernel_rfl) (by kernel_rfl) (by kernel_rfl) (fun _ _ _ h => h) (Or.inl ⟨by rfl, fun w hS => by obtain ⟨hs1, hs2, hs3⟩ := hS; go_simp⟩) hHeld ?_
            simp only [Act.put, List.setIfInBounds_toArray, List.set_cons_zero, List.set_cons_succ]
            refine wpAnyH_take (i := 7) (oi := ⟨some 56, Op.move (Operand.tmp 1), 3, _, _, some (3, true)⟩) (v := .int .i64 (i : Int)) rfl (by kernel_rfl) (by kernel_rfl) (by kernel_rfl) (fun _ _ _ h => h) (Or.inl ⟨by rfl, fun w hS => by obtain ⟨hs1, hs2, hs3⟩ := hS; go_simp⟩) hHeld ?_
            simp only [Act.put, List.setIfInBounds_toArray, List.set_cons_zero, List.set_cons_succ]
            refine wpAnyH_take (i := 8) (oi := ⟨some 57, Op.indexAddr 23 (Operand.tmp 55) (Operand.tmp 56), 0, _, _, some (3, true)⟩) (v := .pointer (some ⟨g2, of2 + i * 37, none⟩)) rfl (by kernel_rfl) (by kernel_rfl) (by kernel_rfl) (fun _ _ _ h => h) (Or.inl ⟨by rfl, fun w hS => by obtain ⟨hs1, hs2, hs3⟩ := hS; go_simp⟩) hHeld ?_
            simp only [Act.put, List.setIfInBounds_toArray, List.set_cons_zero, List.set_cons_succ]
            refine wpAnyH_take (i := 9) (oi := ⟨some 58, Op.fieldAddr 33 (Operand.tmp 57) 1, 0, _, _, some (3, true)⟩) (v := .pointer (some ⟨g2, of2 + i * 37 + 1, none⟩)) rfl (by kernel_rfl) (by kernel_rfl) (by kernel_rfl) (fun _ _ _ h => h) (Or.inl ⟨by rfl, fun w hS => by obtain ⟨hs1, hs2, hs3⟩ := hS; go_simp⟩) hHeld ?_
            simp only [Act.put, List.setIfInBounds_toArray, List.set_cons_zero, List.set_cons_succ]
            refine wpAnyH_take (i := 10) (oi := ⟨some 59, Op.load 9 (Operand.tmp 58), 9, _, _, some (3, true)⟩) (v := .string x.key) rfl (by kernel_rfl) (by kernel_rfl) (by kernel_rfl) (fun _ _ _ h => h) (Or.inl ⟨by rfl, fun w hS => by obtain ⟨hs1, hs2, hs3⟩ := hS; go_simp⟩) hHeld ?_
            simp only [Act.put, List.setIfInBounds_toArray, List.set_cons_zero, List.set_cons_succ]
            refine wpAnyH_take (i := 11) (oi := ⟨some 60, Op.binOp BinOp.eql 9 (Operand.tmp 54) (Operand.tmp 59) 9, 4, _, _, some (3, true)⟩) (v := .bool (it.key.toList == x.key.toList)) rfl (by kernel_rfl) (by kernel_rfl) (by kernel_rfl) (fun _ _ _ h => h) (Or.inl ⟨by rfl, fun w hS => by obtain ⟨hs1, hs2, hs3⟩ := hS; go_simp⟩) hHeld ?_
            simp only [Act.put, List.setIfInBounds_toArray, List.set_cons_zero, List.set_cons_succ]
            refine wpAnyH_take (i := 12) (oi := ⟨some 61, Op.pick (Operand.tmp 52) (Operand.tmp 60) (Operand.const (Value.bool false)), 4, _, _, none⟩) (v := .bool (it.key.toList == x.key.toList)) rfl (by kernel_rfl) (by kernel_rfl) (by kernel_rfl) (fun _ _ _ h => h) (Or.inl ⟨by rfl, fun w hS => by obtain ⟨hs1, hs2, hs3⟩ := hS; go_simp⟩) hHeld ?_
            simp only [Act.put, List.setIfInBounds_toArray, List.set_cons_zero, List.set_cons_succ]
            refine wpAnyH_take (i := 13) (oi := ⟨some 4, Op.assign (Operand.tmp 61), 4, _, _, none⟩) (v := .bool (it.key.toList == x.key.toList)) rfl (by kernel_rfl) (by kernel_rfl) (by kernel_rfl) (fun _ _ _ h => h) (Or.inl ⟨by rfl, fun w hS => by obtain ⟨hs1, hs2, hs3⟩ := hS; go_simp⟩) hHeld ?_
            simp only [Act.put, List.setIfInBounds_toArray, List.set_cons_zero, List.set_cons_succ]
            refine wpAnyH_done (by kernel_rfl) ?_ _
            refine hK9 _ _ ?_
            refine wp_ret ?_
            go_ret
            have e : (x.op - 1).toNat = t := by omega
            have hgt : (l.take i).getD t zeroOp = it := by rw [hit.out]; simp [List.getD_eq_getElem?_getD, hti, List.getElem?_take]
            exact ⟨by rw [HM.out, if_neg (by simp; omega), if_neg (by simp), if_neg (by have := Hlt.out; omega), e, hgt, hk8, beq_toListBytes]; rfl, HW1.out.trans ((HG.out.drew).mono HW1.out.size)⟩
          · skip
            refine wp_region_held_drew (S := fun wx => wx.cell? ⟨w1.heap.size, 0, none⟩ = some (.int .i64 it.kind) ∧ wx.cell? ⟨w1.heap.size, 1, none⟩ = some (.string it.key) ∧ wx.cell? ⟨g2, of2 + i * 37 + 1, none⟩ = some (.string x.key)) (by kernel_rfl) (HS2.out) (fun hHeld => ?_)
            refine wpAnyH_take (i := 0) (oi := ⟨some 49, Op.fieldAddr 33 (Operand.tmp 7) 0, 0, _, _, none⟩) (v := .pointer (some ⟨w1.heap.size, 0, none⟩)) rfl (by kernel_rfl) (by kernel_rfl) (by kernel_rfl) (fun _ _ _ h => h) (Or.inl ⟨by rfl, fun w hS => by obtain ⟨hs1, hs2, hs3⟩ := hS; go_simp⟩) hHeld ?_
            simp only [Act.put, List.setIfInBounds_toArray, List.set_cons_zero, List.set_cons_succ]
            refine wpAnyH_take (i := 1) (oi := ⟨some 50, Op.load 3 (Operand.tmp 49), 3, _, _, none⟩) (v := .int .i64 it.kind) rfl (by kernel_rfl) (by kernel_rfl) (by kernel_rfl) (fun _ _ _ h => h) (Or.inl ⟨by rfl, fun w hS => by obtain ⟨hs1, hs2, hs3⟩ := hS; go_simp⟩) hHeld ?_
            simp only [Act.put, List.setIfInBounds_toArray, List.set_cons_zero, List.set_cons_succ]
            refine wpAnyH_take (i := 2) (oi := ⟨some 51, Op.binOp BinOp.eql 3 (Operand.tmp 50) (Operand.const (Value.int IntKind.i64 8)) 3, 4, _, _, none⟩) (v := .bool false) rfl (by kernel_rfl) (by kernel_rfl) (by kernel_rfl) (fun _ _ _ h => h) (Or.inl ⟨by rfl, fun w hS => by obtain ⟨hs1, hs2, hs3⟩ := hS; go_simp⟩) hHeld ?_
            simp only [Act.put, List.setIfInBounds_toArray, List.set_cons_zero, List.set_cons_succ]
            refine wpAnyH_take (i := 3) (oi := ⟨some 52, Op.move (Operand.tmp 51), 4, _, _, none⟩) (v := .bool false) rfl (by kernel_rfl) (by kernel_rfl) (by kernel_rfl) (fun _ _ _ h => h) (Or.inl ⟨by rfl, fun w hS => by obtain ⟨hs1, hs2, hs3⟩ := hS; go_simp⟩) hHeld ?_
            simp only [Act.put, List.setIfInBounds_toArray, List.set_cons_zero, List.set_cons_succ]
            refine wpAnyH_take (i := 4) (oi := ⟨some 53, Op.fieldAddr 33 (Operand.tmp 7) 1, 0, _, _, some (3, true)⟩) (v := undef) rfl (by kernel_rfl) (by kernel_rfl) (by kernel_rfl) (fun _ _ _ h => h) (Or.inr ⟨by rfl, rfl⟩) hHeld ?_
            simp only [Act.put, List.setIfInBounds_toArray, List.set_cons_zero, List.set_cons_succ]
            refine wpAnyH_take (i := 5) (oi := ⟨some 54, Op.load 9 (Operand.tmp 53), 9, _, _, some (3, true)⟩) (v := undef) rfl (by kernel_rfl) (by kernel_rfl) (by kernel_rfl) (fun _ _ _ h => h) (Or.inr ⟨by rfl, rfl⟩) hHeld ?_
            simp only [Act.put, List.setIfInBounds_toArray, List.set_cons_zero, List.set_cons_succ]
            refine wpAnyH_take (i := 6) (oi := ⟨some 55, Op.move (Operand.tmp 0), 23, _, _, some (3, true)⟩) (v := undef) rfl (by kernel_rfl) (by kernel_rfl) (by kernel_rfl) (fun _ _ _ h => h) (Or.inr ⟨by rfl, rfl⟩) hHeld ?_
            simp only [Act.put, List.setIfInBounds_toArray, List.set_cons_zero, List.set_cons_succ]
            refine wpAnyH_take (i := 7) (oi := ⟨some 56, Op.move (Operand.tmp 1), 3, _, _, some (3, true)⟩) (v := undef) rfl (by kernel_rfl) (by kernel_rfl) (by kernel_rfl) (fun _ _ _ h => h) (Or.inr ⟨by rfl, rfl⟩) hHeld ?_
            simp only [Act.put, List.setIfInBounds_toArray, List.set_cons_zero, List.set_cons_succ]
            refine wpAnyH_take (i := 8) (oi := ⟨some 57, Op.indexAddr 23 (Operand.tmp 55) (Operand.tmp 56), 0, _, _, some (3, true)⟩) (v := undef) rfl (by kernel_rfl) (by kernel_rfl) (by kernel_rfl) (fun _ _ _ h => h) (Or.inr ⟨by rfl, rfl⟩) hHeld ?_
            simp only [Act.put, List.setIfInBounds_toArray, List.set_cons_zero, List.set_cons_succ]
            refine wpAnyH_take (i := 9) (oi := ⟨some 58, Op.fieldAddr 33 (Operand.tmp 57) 1, 0, _, _, some (3, true)⟩) (v := undef) rfl (by kernel_rfl) (by kernel_rfl) (by kernel_rfl) (fun _ _ _ h => h) (Or.inr ⟨by rfl, rfl⟩) hHeld ?_
            simp only [Act.put, List.setIfInBounds_toArray, List.set_cons_zero, List.set_cons_succ]
            refine wpAnyH_take (i := 10) (oi := ⟨some 59, Op.load 9 (Operand.tmp 58), 9, _, _, some (3, true)⟩) (v := undef) rfl (by kernel_rfl) (by kernel_rfl) (by kernel_rfl) (fun _ _ _ h => h) (Or.inr ⟨by rfl, rfl⟩) hHeld ?_
            simp only [Act.put, List.setIfInBounds_toArray, List.set_cons_zero, List.set_cons_succ]
            refine wpAnyH_take (i := 11) (oi := ⟨some 60, Op.binOp BinOp.eql 9 (Operand.tmp 54) (Operand.tmp 59) 9, 4, _, _, some (3, true)⟩) (v := undef) rfl (by kernel_rfl) (by kernel_rfl) (by kernel_rfl) (fun _ _ _ h => h) (Or.inr ⟨by rfl, rfl⟩) hHeld ?_
            simp only [Act.put, List.setIfInBounds_toArray, List.set_cons_zero, List.set_cons_succ]
            refine wpAnyH_take (i := 12) (oi := ⟨some 61, Op.pick (Operand.tmp 52) (Operand.tmp 60) (Operand.const (Value.bool false)), 4, _, _, none⟩) (v := .bool false) rfl (by kernel_rfl) (by kernel_rfl) (by kernel_rfl) (fun _ _ _ h => h) (Or.inl ⟨by rfl, fun w hS => by obtain ⟨hs1, hs2, hs3⟩ := hS; go_simp⟩) hHeld ?_
            simp only [Act.put, List.setIfInBounds_toArray, List.set_cons_zero, List.set_cons_succ]
            refine wpAnyH_take (i := 13) (oi := ⟨some 4, Op.assign (Operand.tmp 61), 4, _, _, none⟩) (v := .bool false) rfl (by kernel_rfl) (by kernel_rfl) (by kernel_rfl) (fun _ _ _ h => h) (Or.inl ⟨by rfl, fun w hS => by obtain ⟨hs1, hs2, hs3⟩ := hS; go_simp⟩) hHeld ?_
            simp only [Act.put, List.setIfInBounds_toArray, List.set_cons_zero, List.set_cons_succ]
            refine wpAnyH_done (by kernel_rfl) ?_ _
            refine hK9 _ _ ?_
            refine wp_ret ?_
            go_ret
            have e : (x.op - 1).toNat = t := by omega
            have hgt : (l.take i).getD t zeroOp = it := by rw [hit.out]; simp [List.getD_eq_getElem?_getD, hti, List.getElem?_take]
            exact ⟨by rw [HM.out, if_neg (by simp; omega), if_neg (by simp), if_neg (by have := Hlt.out; omega), e, hgt, show (it.kind == 8) = false by simpa using hk8]; rfl, HW1.out.trans ((HG.out.drew).mono HW1.out.size)⟩
        · skip
          refine WL.val (by kernel_rfl) (.bool false) (by go_simp) ?_
          simp only [Act.put, List.setIfInBounds_toArray, List.set_cons_zero, List.set_cons_succ]
          refine WL.val (by kernel_rfl) (.bool false) (by go_simp) ?_
          simp only [Act.put, List.setIfInBounds_toArray, List.set_cons_zero, List.set_cons_succ]
          refine WL.val (by kernel_rfl) (.bool false) (by go_simp) ?_
          simp only [Act.put, List.setIfInBounds_toArray, List.set_cons_zero, List.set_cons_succ]
          refine WL.nil ?_
          refine hK7 _ _ ?_
          refine wp_cond_false rfl ?_
          refine wp_seq_k fun K10 hK10 => ?_
          refine wp_region_list (WL.out ?_)
          refine WL.val (by kernel_rfl) (.bool true) (by go_simp) ?_
          simp only [Act.put, List.setIfInBounds_toArray, List.set_cons_zero, List.set_cons_succ]
          refine WL.val (by kernel_rfl) (.bool true) (by go_simp) ?_
          simp only [Act.put, List.setIfInBounds_toArray, List.set_cons_zero, List.set_cons_succ]
          refine WL.nil ?_
          refine hK10 _ _ ?_
          refine wp_cond_true rfl ?_
          refine wp_seq_k fun K11 hK11 => ?_
          refine wp_region_list (WL.out ?_)
          refine WL.val (by kernel_rfl) (.bool false) (by go_simp) ?_
          simp only [Act.put, List.setIfInBounds_toArray, List.set_cons_zero, List.set_cons_succ]
          refine WL.nil ?_
          refine hK11 _ _ ?_
          refine wp_ret ?_
          go_ret
          exact ⟨by rw [HM.out, if_neg (by simp; omega), if_neg (by simp), if_pos (by have := Hlt.out; omega)]; rfl, HW1.out⟩
      · skip
        refine WL.val (by kernel_rfl) (.bool false) (by go_simp) ?_
        simp only [Act.put, List.setIfInBounds_toArray, List.set_cons_zero, List.set_cons_succ]
        refine WL.val (by kernel_rfl) (.bool false) (by go_simp) ?_
        simp only [Act.put, List.setIfInBounds_toArray, List.set_cons_zero, List.set_cons_succ]
        refine WL.val (by kernel_rfl) (.bool false) (by go_simp) ?_
        simp only [Act.put, List.setIfInBounds_toArray, List.set_cons_zero, List.set_cons_succ]
        refine WL.skip (by kernel_rfl) ?_
        simp only [Act.put, List.setIfInBounds_toArray, List.set_cons_zero, List.set_cons_succ]
        refine WL.skip (by kernel_rfl) ?_
        simp only [Act.put, List.setIfInBounds_toArray, List.set_cons_zero, List.set_cons_succ]
        refine WL.skip (by kernel_rfl) ?_
        simp only [Act.put, List.setIfInBounds_toArray, List.set_cons_zero, List.set_cons_succ]
        refine WL.skip (by kernel_rfl) ?_
        simp only [Act.put, List.setIfInBounds_toArray, List.set_cons_zero, List.set_cons_succ]
        refine WL.val (by kernel_rfl) (.bool false) (by go_simp) ?_
        simp only [Act.put, List.setIfInBounds_toArray, List.set_cons_zero, List.set_cons_succ]
        refine WL.val (by kernel_rfl) (.bool false) (by go_simp) ?_
        simp only [Act.put, List.setIfInBounds_toArray, List.set_cons_zero, List.set_cons_succ]
        refine WL.nil ?_
        refine hK7 _ _ ?_
        refine wp_cond_false rfl ?_
        refine wp_seq_k fun K12 hK12 => ?_
        refine wp_region_list (WL.out ?_)
        refine WL.val (by kernel_rfl) (.bool true) (by go_simp) ?_
        simp only [Act.put, List.setIfInBounds_toArray, List.set_cons_zero, List.set_cons_succ]
        refine WL.val (by kernel_rfl) (.bool true) (by go_simp) ?_
        simp only [Act.put, List.setIfInBounds_toArray, List.set_cons_zero, List.set_cons_succ]
        refine WL.nil ?_
        refine hK12 _ _ ?_
        refine wp_cond_true rfl ?_
        refine wp_seq_k fun K13 hK13 => ?_
        refine wp_region_list (WL.out ?_)
        refine WL.val (by kernel_rfl) (.bool false) (by go_simp) ?_
        simp only [Act.put, List.setIfInBounds_toArray, List.set_cons_zero, List.set_cons_succ]
        refine WL.nil ?_
        refine hK13 _ _ ?_
        refine wp_ret ?_
        go_ret
        exact ⟨by rw [HM.out, if_neg (by simp; omega), if_neg (by simp), if_pos (by have := Hlt.out; omega)]; rfl, HW1.out⟩
  · rw [h2_3] at he HM
    refine WL.val (by kernel_rfl) (.bool false) (by go_simp) ?_
    simp only [Act.put, List.setIfInBounds_toArray, List.set_cons_zero, List.set_cons_succ]
    refine WL.val (by kernel_rfl) (.bool false) (by go_simp) ?_
    simp only [Act.put, List.setIfInBounds_toArray, List.set_cons_zero, List.set_cons_succ]
    refine WL.nil ?_
    refine hK3 _ _ ?_
    refine wp_seq_k fun K14 hK14 => ?_
    refine wp_block ?_
    refine wp_seq_k fun K15 hK15 => ?_
    refine wp_region_list (WL.out ?_)
    refine WL.val (by kernel_rfl) (.bool false) (by go_simp) ?_
    simp only [Act.put, List.setIfInBounds_toArray, List.set_cons_zero, List.set_cons_succ]
    refine WL.val (by kernel_rfl) (.bool false) (by go_simp) ?_
    simp only [Act.put, List.setIfInBounds_toArray, List.set_cons_zero, List.set_cons_succ]
    refine WL.skip (by kernel_rfl) ?_
    simp only [Act.put, List.setIfInBounds_toArray, List.set_cons_zero, List.set_cons_succ]
    refine WL.skip (by kernel_rfl) ?_
    simp only [Act.put, List.setIfInBounds_toArray, List.set_cons_zero, List.set_cons_succ]
    refine WL.skip (by kernel_rfl) ?_
    simp only [Act.put, List.setIfInBounds_toArray, List.set_cons_zero, List.set_cons_succ]
    refine WL.val (by kernel_rfl) (.bool false) (by go_simp) ?_
    simp only [Act.put, List.setIfInBounds_toArray, List.set_cons_zero, List.set_cons_succ]
    refine WL.val (by kernel_rfl) (.bool false) (by go_simp) ?_
    simp only [Act.put, List.setIfInBounds_toArray, List.set_cons_zero, List.set_cons_succ]
    refine WL.nil ?_
    refine hK15 _ _ ?_
    refine wp_cond_false rfl ?_
    refine wp_seq_k fun K16 hK16 => ?_
    refine wp_region_list (WL.out ?_)
    refine WL.val (by kernel_rfl) (.bool false) (by go_simp) ?_
    simp only [Act.put, List.setIfInBounds_toArray, List.set_cons_zero, List.set_cons_succ]
    refine WL.val (by kernel_rfl) (.bool false) (by go_simp) ?_
    simp only [Act.put, List.setIfInBounds_toArray, List.set_cons_zero, List.set_cons_succ]
    refine WL.skip (by kernel_rfl) ?_
    simp only [Act.put, List.setIfInBounds_toArray, List.set_cons_zero, List.set_cons_succ]
    refine WL.skip (by kernel_rfl) ?_
    simp only [Act.put, List.setIfInBounds_toArray, List.set_cons_zero, List.set_cons_succ]
    refine WL.skip (by kernel_rfl) ?_
    simp only [Act.put, List.setIfInBounds_toArray, List.set_cons_zero, List.set_cons_succ]
    refine WL.val (by kernel_rfl) (.bool false) (by go_simp) ?_
    simp only [Act.put, List.setIfInBounds_toArray, List.set_cons_zero, List.set_cons_succ]
    refine WL.val (by kernel_rfl) (.bool false) (by go_simp) ?_
    simp only [Act.put, List.setIfInBounds_toArray, List.set_cons_zero, List.set_cons_succ]
    refine WL.skip (by kernel_rfl) ?_
    simp only [Act.put, List.setIfInBounds_toArray, List.set_cons_zero, List.set_cons_succ]
    refine WL.skip (by kernel_rfl) ?_
    simp only [Act.put, List.setIfInBounds_toArray, List.set_cons_zero, List.set_cons_succ]
    refine WL.skip (by kernel_rfl) ?_
    simp only [Act.put, List.setIfInBounds_toArray, List.set_cons_zero, List.set_cons_succ]
    refine WL.skip (by kernel_rfl) ?_
    simp only [Act.put, List.setIfInBounds_toArray, List.set_cons_zero, List.set_cons_succ]
    refine WL.val (by kernel_rfl) (.bool false) (by go_simp) ?_
    simp only [Act.put, List.setIfInBounds_toArray, List.set_cons_zero, List.set_cons_succ]
    refine WL.val (by kernel_rfl) (.bool false) (by go_simp) ?_
    simp only [Act.put, List.setIfInBounds_toArray, List.set_cons_zero, List.set_cons_succ]
    refine WL.nil ?_
    refine hK16 _ _ ?_
    refine wp_cond_false rfl ?_
    refine wp_seq_k fun K17 hK17 => ?_
    refine wp_region_list (WL.out ?_)
    refine WL.val (by kernel_rfl) (.bool false) (by go_simp) ?_
    simp only [Act.put, List.setIfInBounds_toArray, List.set_cons_zero, List.set_cons_succ]
    refine WL.val (by kernel_rfl) (.bool false) (by go_simp) ?_
    simp only [Act.put, List.setIfInBounds_toArray, List.set_cons_zero, List.set_cons_succ]
    refine WL.nil ?_
    refine hK17 _ _ ?_
    refine wp_cond_false rfl ?_
    refine wp_skip ?_
    refine hK14 _ _ ?_
    refine wp_seq_k fun K18 hK18 => ?_
    refine wp_region_list (WL.out ?_)
    refine WL.val (by kernel_rfl) (.pointer (some ⟨w.heap.size, 32, none⟩)) (by go_simp) ?_
    simp only [Act.put, List.setIfInBounds_toArray, List.set_cons_zero, List.set_cons_succ]
    refine WL.val (by kernel_rfl) (.int .i64 x.op) (by go_simp) ?_
    simp only [Act.put, List.setIfInBounds_toArray, List.set_cons_zero, List.set_cons_succ]
    by_cases h10_2 : 1 ≤ x.op
    · skip
      refine WL.val (by kernel_rfl) (.bool true) (by go_simp) ?_
      simp only [Act.put, List.setIfInBounds_toArray, List.set_cons_zero, List.set_cons_succ]
      refine WL.val (by kernel_rfl) (.bool true) (by go_simp) ?_
      simp only [Act.put, List.setIfInBounds_toArray, List.set_cons_zero, List.set_cons_succ]
      refine WL.val (by kernel_rfl) (.pointer (some ⟨w.heap.size, 32, none⟩)) (by go_simp) ?_
      simp only [Act.put, List.setIfInBounds_toArray, List.set_cons_zero, List.set_cons_succ]
      refine WL.val (by kernel_rfl) (.int .i64 x.op) (by go_simp) ?_
      simp only [Act.put, List.setIfInBounds_toArray, List.set_cons_zero, List.set_cons_succ]
      by_cases h10_6 : x.op ≤ 1024
      · skip
        refine WL.val (by kernel_rfl) (.bool true) (by go_simp) ?_
        simp only [Act.put, List.setIfInBounds_toArray, List.set_cons_zero, List.set_cons_succ]
        refine WL.val (by kernel_rfl) (.bool true) (by go_simp) ?_
        simp only [Act.put, List.setIfInBounds_toArray, List.set_cons_zero, List.set_cons_succ]
        refine WL.val (by kernel_rfl) (.bool true) (by go_simp) ?_
        simp only [Act.put, List.setIfInBounds_toArray, List.set_cons_zero, List.set_cons_succ]
        refine WL.nil ?_
        refine hK18 _ _ ?_
        refine wp_ret ?_
        go_ret
        exact ⟨by rw [HM.out, if_neg (by simp), if_pos rfl, decide_eq_true (show 1 ≤ x.op by omega), decide_eq_true (show x.op ≤ 1024 by omega)]; rfl, HW1.out⟩
      · skip
        refine WL.val (by kernel_rfl) (.bool false) (by go_simp) ?_
        simp only [Act.put, List.setIfInBounds_toArray, List.set_cons_zero, List.set_cons_succ]
        refine WL.val (by kernel_rfl) (.bool false) (by go_simp) ?_
        simp only [Act.put, List.setIfInBounds_toArray, List.set_cons_zero, List.set_cons_succ]
        refine WL.val (by kernel_rfl) (.bool false) (by go_simp) ?_
        simp only [Act.put, List.setIfInBounds_toArray, List.set_cons_zero, List.set_cons_succ]
        refine WL.nil ?_
        refine hK18 _ _ ?_
        refine wp_ret ?_
        go_ret
        exact ⟨by rw [HM.out, if_neg (by simp), if_pos rfl, decide_eq_true (show 1 ≤ x.op by omega), decide_eq_false (show ¬ x.op ≤ 1024 by omega)]; rfl, HW1.out⟩
    · skip
      refine WL.val (by kernel_rfl) (.bool false) (by go_simp) ?_
      simp only [Act.put, List.setIfInBounds_toArray, List.set_cons_zero, List.set_cons_succ]
      refine WL.val (by kernel_rfl) (.bool false) (by go_simp) ?_
      simp only [Act.put, List.setIfInBounds_toArray, List.set_cons_zero, List.set_cons_succ]
      refine WL.skip (by kernel_rfl) ?_
      simp only [Act.put, List.setIfInBounds_toArray, List.set_cons_zero, List.set_cons_succ]
      refine WL.skip (by kernel_rfl) ?_
      simp only [Act.put, List.setIfInBounds_toArray, List.set_cons_zero, List.set_cons_succ]
      refine WL.skip (by kernel_rfl) ?_
      simp only [Act.put, List.setIfInBounds_toArray, List.set_cons_zero, List.set_cons_succ]
      refine WL.val (by kernel_rfl) (.bool false) (by go_simp) ?_
      simp only [Act.put, List.setIfInBounds_toArray, List.set_cons_zero, List.set_cons_succ]
      refine WL.val (by kernel_rfl) (.bool false) (by go_simp) ?_
      simp only [Act.put, List.setIfInBounds_toArray, List.set_cons_zero, List.set_cons_succ]
      refine WL.nil ?_
      refine hK18 _ _ ?_
      refine wp_ret ?_
      go_ret
      exact ⟨by rw [HM.out, if_neg (by simp), if_pos rfl, decide_eq_false (show ¬ 1 ≤ x.op by omega)]; rfl, HW1.out⟩

end Go.Proofs.Ytbkboebinhafhaa
