import Derived.Test.YtgpgnldcdimmbaaK05
namespace Go.Proofs.Ytgpgnldcdimmbaa
open Go.RowKit
set_option linter.unusedSimpArgs false

theorem Try.new77 (w : World) : (Instr.alloc 77 true (.tuple #[])).run Try.prog w = .ok (.pointer (some ⟨w.heap.size, 0, none⟩)) (w.alloc (.cells (idA z32 0) 77)) := by kernel_rfl
theorem idA_sizes (c e : List Int) (o p : Int) : (idA c o).size = (idA e p).size := by rw [idA_size, idA_size]
theorem idA_32 (c : List Int) (o : Int) : (idA c o)[32]? = some (.int .i64 o) := by unfold idA; rw [List.getElem?_toArray]; exact idL_op c o
theorem opL_range {w : World} {g of : Nat} {x : OpV} (h : w.rangeAt g of (opL x)) : w.rangeAt g (of + 4) (idA x.node x.op).toList := fun j v hv => by
  have := h (4 + j) v (by rw [← List.getElem?_drop, opL_at]; exact hv)
  rw [← Nat.add_assoc] at this; exact this
set_option maxRecDepth 8000 in
set_option maxHeartbeats 2000000 in
theorem rmay_any (v : Value) (l : List OpV) (i : Nat) (w : World) (hl : OpsAt w v l) (hi : i < l.length) (hb : l.length ≤ 4398046511104) (hok : OpOk (l.getD i zeroOp)) :
    Calls Try.prog 85 #[v, .int .i64 (i : Int)] w fun e w' => e = .returned (.bool (mayAt (l.take i) (l.getD i zeroOp))) ∧ Below w.heap.size w w' := by
  obtain ⟨va, vc, rfl⟩ := hl.form
  obtain ⟨gL, ofL, hva, hr⟩ := hl.at hi
  obtain ⟨R, hR⟩ : ∃ R, R = mayAt (l.take i) (l.getD i zeroOp) := ⟨_, rfl⟩
  rw [← hR]
  generalize l.getD i zeroOp = x at *
  unfold mayAt at hR
  have HM := Keep.mk hR
  have HRx := Keep.mk hr
  have HRi := Keep.mk (opL_range hr)
  have Hi := Keep.mk hi
  have Hlt : Keep ((l.take i).length = i) := ⟨by rw [List.length_take]; omega⟩
  have hi' : (i : Int) < (l.length : Int) := by omega
  have hb' : (l.length : Int) ≤ 4398046511104 := by omega
  have he := run_eqlH x.node z32
  have ho1 := hok.o1
  have ho2 := hok.o2
  have HA := Keep.mk ((Blk.new w 77 (idA z32 0)).setRow (idA x.node x.op))
  have HW1 : Keep (Below w.heap.size w ((w.alloc (.cells (idA z32 0) 77)).setRow w.heap.size (idA x.node x.op))) := ⟨below_setRow (below_new w _) (Nat.le_refl _) _⟩
  have hL1 := hl.below HW1.out
  obtain ⟨w1, hw1⟩ : ∃ w1, Keep ((w.alloc (.cells (idA z32 0) 77)).setRow w.heap.size (idA x.node x.op) = w1) := ⟨_, ⟨rfl⟩⟩
  rw [hw1.out] at HA HW1 hL1
  have HL1 := Keep.mk hL1
  have c32 := HA.out.c 32 (idA_32 _ _)
  have hrx1 := range_grown hr (Grown.below (S := fun _ => False) HW1.out) (fun h => h)
  have ck : w1.cell? ⟨gL, ofL + i * 37, none⟩ = some (.int .i64 x.kind) := hrx1 0 _ (by simp [opL])
  clear hl hi hb hok hr hR hL1 hrx1
  go_enter Try.func85, Try.ntmps85
  refine wp_seq_k fun K1 hK1 => ?_
  refine wp_region_list (WL.out ?_)
  refine WL.val (by kernel_rfl) (.bool false) (by go_simp) ?_
  simp only [Act.put, List.setIfInBounds_toArray, List.set_cons_zero, List.set_cons_succ]
  refine WL.nil ?_
  refine hK1 _ _ ?_
  refine wp_seq_k fun K2 hK2 => ?_
  refine wp_region_list (WL.out ?_)
  refine WL.val (by kernel_rfl) (.slice va l.length vc) (by go_simp) ?_
  simp only [Act.put, List.setIfInBounds_toArray, List.set_cons_zero, List.set_cons_succ]
  refine WL.val (by kernel_rfl) (.int .i64 (i : Int)) (by go_simp) ?_
  simp only [Act.put, List.setIfInBounds_toArray, List.set_cons_zero, List.set_cons_succ]
  refine WL.val (by kernel_rfl) (.pointer (some ⟨gL, ofL + i * 37, none⟩)) (by go_simp) ?_
  simp only [Act.put, List.setIfInBounds_toArray, List.set_cons_zero, List.set_cons_succ]
  refine WL.val (by kernel_rfl) (.pointer (some ⟨gL, ofL + i * 37 + 4, none⟩)) (by go_simp) ?_
  simp only [Act.put, List.setIfInBounds_toArray, List.set_cons_zero, List.set_cons_succ]
  refine WL.midA (by kernel_rfl) 77 (.tmp 11) rfl gL (ofL + i * 37 + 4) rfl (idA x.node x.op) _ HRi.out Try.underlying77 rfl (Try.size77B _ _) ?_
  simp only [Act.put, List.setIfInBounds_toArray, List.set_cons_zero, List.set_cons_succ]
  refine WL.new (by kernel_rfl) 77 rfl _ Try.new77 ?_
  simp only [Act.put, List.setIfInBounds_toArray, List.set_cons_zero, List.set_cons_succ]
  refine WL.storeR (by kernel_rfl) 77 (.tmp 5) (.tmp 12) rfl w.heap.size (idA x.node x.op) rfl rfl 77 (idA z32 0) (Blk.new w 77 _) (Try.size77B _ _) (idA_sizes _ _ _ _) (idA_one _ _) ?_
  rw [hw1.out]
  simp only [Act.put]
  refine WL.nil ?_
  refine hK2 _ _ ?_
  refine wp_seq_k fun K3 hK3 => ?_
  refine wp_region_list (WL.out ?_)
  refine WL.val (by kernel_rfl) (.pointer (some ⟨w.heap.size, 0, none⟩)) (by go_simp) ?_
  simp only [Act.put, List.setIfInBounds_toArray, List.set_cons_zero, List.set_cons_succ]
  refine WL.midA (by kernel_rfl) 40 (.tmp 13) rfl w.heap.size 0 rfl (bytesA 32 (hof x.node)) _ (idA_range HA.out) Try.underlying40 rfl (Try.size40B _) ?_
  simp only [Act.put, List.setIfInBounds_toArray, List.set_cons_zero, List.set_cons_succ]
  refine WL.bld (by kernel_rfl) 40 _ rfl [] (by simp) (bytesA 32 (hof z32)) Try.built40 ?_
  simp only [Act.put, List.setIfInBounds_toArray, List.set_cons_zero, List.set_cons_succ]
  rcases Bool.eq_false_or_eq_true (nd x.node z32) with h2_3 | h2_3
  · rw [h2_3] at he HM
    refine WL.val (by kernel_rfl) (.bool true) (by go_simp) ?_
    simp only [Act.put, List.setIfInBounds_toArray, List.set_cons_zero, List.set_cons_succ]
    refine WL.val (by kernel_rfl) (.bool true) (by go_simp) ?_
    simp only [Act.put, List.setIfInBounds_toArray, List.set_cons_zero, List.set_cons_succ]
    refine WL.nil ?_
    refine hK3 _ _ ?_
    refine wp_seq_k fun K4 hK4 => ?_
    refine wp_block ?_
    refine wp_seq_k fun K5 hK5 => ?_
    refine wp_region_list (WL.out ?_)
    refine WL.val (by kernel_rfl) (.bool true) (by go_simp) ?_
    simp only [Act.put, List.setIfInBounds_toArray, List.set_cons_zero, List.set_cons_succ]
    refine WL.val (by kernel_rfl) (.bool true) (by go_simp) ?_
    simp only [Act.put, List.setIfInBounds_toArray, List.set_cons_zero, List.set_cons_succ]
    refine WL.val (by kernel_rfl) (.pointer (some ⟨w.heap.size, 32, none⟩)) (by go_simp) ?_
    simp only [Act.put, List.setIfInBounds_toArray, List.set_cons_zero, List.set_cons_succ]
    refine WL.val (by kernel_rfl) (.int .i64 x.op) (by go_simp) ?_
    simp only [Act.put, List.setIfInBounds_toArray, List.set_cons_zero, List.set_cons_succ]
    by_cases h3_4 : x.op = 0
    · skip
      refine WL.val (by kernel_rfl) (.bool true) (by go_simp) ?_
      simp only [Act.put, List.setIfInBounds_toArray, List.set_cons_zero, List.set_cons_succ]
      refine WL.val (by kernel_rfl) (.bool true) (by go_simp) ?_
      simp only [Act.put, List.setIfInBounds_toArray, List.set_cons_zero, List.set_cons_succ]
      refine WL.val (by kernel_rfl) (.bool true) (by go_simp) ?_
      simp only [Act.put, List.setIfInBounds_toArray, List.set_cons_zero, List.set_cons_succ]
      refine WL.nil ?_
      refine hK5 _ _ ?_
      refine wp_cond_true rfl ?_
      refine wp_seq_k fun K6 hK6 => ?_
      refine wp_region_list (WL.out ?_)
      refine WL.val (by kernel_rfl) (.slice va l.length vc) (by go_simp) ?_
      simp only [Act.put, List.setIfInBounds_toArray, List.set_cons_zero, List.set_cons_succ]
      refine WL.val (by kernel_rfl) (.int .i64 (i : Int)) (by go_simp) ?_
      simp only [Act.put, List.setIfInBounds_toArray, List.set_cons_zero, List.set_cons_succ]
      refine WL.val (by kernel_rfl) (.pointer (some ⟨gL, ofL + i * 37, none⟩)) (by go_simp) ?_
      simp only [Act.put, List.setIfInBounds_toArray, List.set_cons_zero, List.set_cons_succ]
      refine WL.val (by kernel_rfl) (.pointer (some ⟨gL, ofL + i * 37, none⟩)) (by go_simp) ?_
      simp only [Act.put, List.setIfInBounds_toArray, List.set_cons_zero, List.set_cons_succ]
      refine WL.val (by kernel_rfl) (.int .i64 x.kind) (by go_simp) ?_
      simp only [Act.put, List.setIfInBounds_toArray, List.set_cons_zero, List.set_cons_succ]
      refine WL.val (by kernel_rfl) (.bool (x.kind == 8)) (by go_simp) ?_
      simp only [Act.put, List.setIfInBounds_toArray, List.set_cons_zero, List.set_cons_succ]
      refine WL.val (by kernel_rfl) (.bool (x.kind == 8)) (by go_simp) ?_
      simp only [Act.put, List.setIfInBounds_toArray, List.set_cons_zero, List.set_cons_succ]
      refine WL.nil ?_
      refine hK6 _ _ ?_
      refine wp_ret ?_
      go_ret
      exact ⟨by rw [HM.out, if_pos (by simp; omega)]; rfl, HW1.out⟩
    · skip
      refine WL.val (by kernel_rfl) (.bool false) (by go_simp) ?_
      simp only [Act.put, List.setIfInBounds_toArray, List.set_cons_zero, List.set_cons_succ]
      refine WL.val (by kernel_rfl) (.bool false) (by go_simp) ?_
      simp only [Act.put, List.setIfInBounds_toArray, List.set_cons_zero, List.set_cons_succ]
      refine WL.val (by kernel_rfl) (.bool false) (by go_simp) ?_
      simp only [Act.put, List.setIfInBounds_toArray, List.set_cons_zero, List.set_cons_succ]
      refine WL.nil ?_
      refine hK5 _ _ ?_
      refine wp_cond_false rfl ?_
      refine wp_seq_k fun K7 hK7 => ?_
      refine wp_region_list (WL.out ?_)
      refine WL.val (by kernel_rfl) (.bool true) (by go_simp) ?_
      simp only [Act.put, List.setIfInBounds_toArray, List.set_cons_zero, List.set_cons_succ]
      refine WL.val (by kernel_rfl) (.bool true) (by go_simp) ?_
      simp only [Act.put, List.setIfInBounds_toArray, List.set_cons_zero, List.set_cons_succ]
      refine WL.val (by kernel_rfl) (.pointer (some ⟨w.heap.size, 32, none⟩)) (by go_simp) ?_
      simp only [Act.put, List.setIfInBounds_toArray, List.set_cons_zero, List.set_cons_succ]
      refine WL.val (by kernel_rfl) (.int .i64 x.op) (by go_simp) ?_
      simp only [Act.put, List.setIfInBounds_toArray, List.set_cons_zero, List.set_cons_succ]
      by_cases h5_4 : 1 ≤ x.op
      · skip
        refine WL.val (by kernel_rfl) (.bool true) (by go_simp) ?_
        simp only [Act.put, List.setIfInBounds_toArray, List.set_cons_zero, List.set_cons_succ]
        refine WL.val (by kernel_rfl) (.bool true) (by go_simp) ?_
        simp only [Act.put, List.setIfInBounds_toArray, List.set_cons_zero, List.set_cons_succ]
        refine WL.val (by kernel_rfl) (.bool true) (by go_simp) ?_
        simp only [Act.put, List.setIfInBounds_toArray, List.set_cons_zero, List.set_cons_succ]
        refine WL.val (by kernel_rfl) (.pointer (some ⟨w.heap.size, 32, none⟩)) (by go_simp) ?_
        simp only [Act.put, List.setIfInBounds_toArray, List.set_cons_zero, List.set_cons_succ]
        refine WL.val (by kernel_rfl) (.int .i64 x.op) (by go_simp) ?_
        simp only [Act.put, List.setIfInBounds_toArray, List.set_cons_zero, List.set_cons_succ]
        refine WL.val (by kernel_rfl) (.int .i64 (i : Int)) (by go_simp) ?_
        simp only [Act.put, List.setIfInBounds_toArray, List.set_cons_zero, List.set_cons_succ]
        by_cases h5_10 : x.op ≤ (i : Int)
        · skip
          refine WL.val (by kernel_rfl) (.bool true) (by go_simp) ?_
          simp only [Act.put, List.setIfInBounds_toArray, List.set_cons_zero, List.set_cons_succ]
          refine WL.val (by kernel_rfl) (.bool true) (by go_simp) ?_
          simp only [Act.put, List.setIfInBounds_toArray, List.set_cons_zero, List.set_cons_succ]
          refine WL.val (by kernel_rfl) (.bool true) (by go_simp) ?_
          simp only [Act.put, List.setIfInBounds_toArray, List.set_cons_zero, List.set_cons_succ]
          refine WL.nil ?_
          refine hK7 _ _ ?_
          refine wp_cond_true rfl ?_
          refine wp_seq_k fun K8 hK8 => ?_
          refine wp_region_list (WL.out ?_)
          refine WL.val (by kernel_rfl) (.slice va l.length vc) (by go_simp) ?_
          simp only [Act.put, List.setIfInBounds_toArray, List.set_cons_zero, List.set_cons_succ]
          refine WL.val (by kernel_rfl) (.pointer (some ⟨w.heap.size, 32, none⟩)) (by go_simp) ?_
          simp only [Act.put, List.setIfInBounds_toArray, List.set_cons_zero, List.set_cons_succ]
          refine WL.val (by kernel_rfl) (.int .i64 x.op) (by go_simp) ?_
          simp only [Act.put, List.setIfInBounds_toArray, List.set_cons_zero, List.set_cons_succ]
          have hws : IntKind.i64.wrap (x.op - 1) = x.op - 1 := by rw [IntKind.wrap_i64]; omega
          refine WL.val (by kernel_rfl) (.int .i64 (x.op - 1)) (by go_simp) ?_
          simp only [Act.put, List.setIfInBounds_toArray, List.set_cons_zero, List.set_cons_succ]
          obtain ⟨t, ht⟩ : ∃ t : Nat, x.op = (t : Int) + 1 := ⟨(x.op - 1).toNat, by omega⟩
          have hti : t < i := by omega
          obtain ⟨g2, of2, hva2, hr2⟩ := HL1.out.at (show t < l.length by have := Hi.out; omega)
          obtain ⟨e1, e2⟩ : g2 = gL ∧ of2 = ofL := by rw [hva] at hva2; simp at hva2; exact ⟨hva2.1.symm, hva2.2.symm⟩
          subst e1 e2
          have htn : (x.op - 1) = (t : Int) := by omega
          rw [show x.op - 1 = (t : Int) from htn]
          have HR2 := Keep.mk hr2
          obtain ⟨it, hit⟩ : ∃ it, Keep (it = l.getD t zeroOp) := ⟨_, ⟨rfl⟩⟩
          rw [← hit.out] at HR2
          have hlt : t < l.length := by have := Hi.out; omega
          have hlt' : (t : Int) < (l.length : Int) := by omega
          clear hr2 hva2 htn
          refine WL.val (by kernel_rfl) (.pointer (some ⟨g2, of2 + t * 37, none⟩)) (by go_simp) ?_
          simp only [Act.put, List.setIfInBounds_toArray, List.set_cons_zero, List.set_cons_succ]
          refine WL.mid (by kernel_rfl) 79 (.tmp 47) rfl g2 (of2 + t * 37) rfl (opL it) _ HR2.out Try.underlying79 rfl (Try.size79L it) ?_
          rw [rng_load]
          simp only [Act.put, List.setIfInBounds_toArray, List.set_cons_zero, List.set_cons_succ]
          refine WL.new (by kernel_rfl) 79 rfl _ Try.new79 ?_
          simp only [Act.put, List.setIfInBounds_toArray, List.set_cons_zero, List.set_cons_succ]
          refine WL.storeR (by kernel_rfl) 79 (.tmp 7) (.tmp 48) rfl w1.heap.size (opA it) rfl rfl 79 (opA zeroOp) (Blk.new w1 79 _) (Try.size79B it) (opA_sizes _ _) (opA_one it) ?_
          have HX := Keep.mk ((Blk.new w1 79 (opA zeroOp)).setRow (opA it))
          have HG : Keep (Below w1.heap.size w1 ((w1.alloc (.cells (opA zeroOp) 79)).setRow w1.heap.size (opA it))) := ⟨below_setRow (below_new w1 _) (Nat.le_refl _) _⟩
          generalize (w1.alloc (.cells (opA zeroOp) 79)).setRow w1.heap.size (opA it) = w2 at *
          have HS2 : Keep (w2.drew.cell? ⟨w1.heap.size, 0, none⟩ = some (.int .i64 it.kind) ∧ w2.drew.cell? ⟨w1.heap.size, 1, none⟩ = some (.string it.key) ∧ w2.drew.cell? ⟨g2, of2 + i * 37 + 1, none⟩ = some (.string x.key)) := ⟨HX.out.drew.c 0 (opA_0 it), HX.out.drew.c 1 (opA_1 it), by
            have h := range_grown HRx.out (Grown.below (S := fun _ => False) ((HW1.out.trans (HG.out.mono HW1.out.size)))) (fun h => h)
            exact h 1 _ (by simp [opL])⟩
          simp only [Act.put]
          refine WL.nil ?_
          refine hK8 _ _ ?_
          refine wp_seq_k fun K9 hK9 => ?_
          by_cases hk8 : it.kind = 8
          · skip
            refine wp_region_held_drew (S := fun wx => wx.cell? ⟨w1.heap.size, 0, none⟩ = some (.int .i64 it.kind) ∧ wx.cell? ⟨w1.heap.size, 1, none⟩ = some (.string it.key) ∧ wx.cell? ⟨g2, of2 + i * 37 + 1, none⟩ = some (.string x.key)) (by kernel_rfl) (HS2.out) (fun hHeld => ?_)
            refine wpAnyH_take (i := 0) (oi := ⟨some 49, Op.fieldAddr 79 (Operand.tmp 7) 0, 0, _, _, none⟩) (v := .pointer (some ⟨w1.heap.size, 0, none⟩)) rfl (by kernel_rfl) (by kernel_rfl) (by kernel_rfl) (fun _ _ _ h => h) (Or.inl ⟨by rfl, fun w hS => by obtain ⟨hs1, hs2, hs3⟩ := hS; go_simp⟩) hHeld ?_
            simp only [Act.put, List.setIfInBounds_toArray, List.set_cons_zero, List.set_cons_succ]
            refine wpAnyH_take (i := 1) (oi := ⟨some 50, Op.load 3 (Operand.tmp 49), 3, _, _, none⟩) (v := .int .i64 it.kind) rfl (by kernel_rfl) (by kernel_rfl) (by kernel_rfl) (fun _ _ _ h => h) (Or.inl ⟨by rfl, fun w hS => by obtain ⟨hs1, hs2, hs3⟩ := hS; go_simp⟩) hHeld ?_
            simp only [Act.put, List.setIfInBounds_toArray, List.set_cons_zero, List.set_cons_succ]
            refine wpAnyH_take (i := 2) (oi := ⟨some 51, Op.binOp BinOp.eql 3 (Operand.tmp 50) (Operand.const (Value.int IntKind.i64 8)) 3, 4, _, _, none⟩) (v := .bool true) rfl (by kernel_rfl) (by kernel_rfl) (by kernel_rfl) (fun _ _ _ h => h) (Or.inl ⟨by rfl, fun w hS => by obtain ⟨hs1, hs2, hs3⟩ := hS; go_simp⟩) hHeld ?_
            simp only [Act.put, List.setIfInBounds_toArray, List.set_cons_zero, List.set_cons_succ]
            refine wpAnyH_take (i := 3) (oi := ⟨some 52, Op.move (Operand.tmp 51), 4, _, _, none⟩) (v := .bool true) rfl (by kernel_rfl) (by kernel_rfl) (by kernel_rfl) (fun _ _ _ h => h) (Or.inl ⟨by rfl, fun w hS => by obtain ⟨hs1, hs2, hs3⟩ := hS; go_simp⟩) hHeld ?_
            simp only [Act.put, List.setIfInBounds_toArray, List.set_cons_zero, List.set_cons_succ]
            refine wpAnyH_take (i := 4) (oi := ⟨some 53, Op.fieldAddr 79 (Operand.tmp 7) 1, 0, _, _, some (3, true)⟩) (v := .pointer (some ⟨w1.heap.size, 1, none⟩)) rfl (by kernel_rfl) (by kernel_rfl) (by kernel_rfl) (fun _ _ _ h => h) (Or.inl ⟨by rfl, fun w hS => by obtain ⟨hs1, hs2, hs3⟩ := hS; go_simp⟩) hHeld ?_
            simp only [Act.put, List.setIfInBounds_toArray, List.set_cons_zero, List.set_cons_succ]
            refine wpAnyH_take (i := 5) (oi := ⟨some 54, Op.load 9 (Operand.tmp 53), 9, _, _, some (3, true)⟩) (v := .string it.key) rfl (by kernel_rfl) (by kernel_rfl) (by kernel_rfl) (fun _ _ _ h => h) (Or.inl ⟨by rfl, fun w hS => by obtain ⟨hs1, hs2, hs3⟩ := hS; go_simp⟩) hHeld ?_
            simp only [Act.put, List.setIfInBounds_toArray, List.set_cons_zero, List.set_cons_succ]
            refine wpAnyH_take (i := 6) (oi := ⟨some 55, Op.move (Operand.tmp 0), 25, _, _, some (3, true)⟩) (v := .slice va l.length vc) rfl (by kernel_rfl) (by kernel_rfl) (by kernel_rfl) (fun _ _ _ h => h) (Or.inl ⟨by rfl, fun w hS => by obtain ⟨hs1, hs2, hs3⟩ := hS; go_simp⟩) hHeld ?_
            simp only [Act.put, List.setIfInBounds_toArray, List.set_cons_zero, List.set_cons_succ]
            refine wpAnyH_take (i := 7) (oi := ⟨some 56, Op.move (Operand.tmp 1), 3, _, _, some (3, true)⟩) (v := .int .i64 (i : Int)) rfl (by kernel_rfl) (by kernel_rfl) (by kernel_rfl) (fun _ _ _ h => h) (Or.inl ⟨by rfl, fun w hS => by obtain ⟨hs1, hs2, hs3⟩ := hS; go_simp⟩) hHeld ?_
            simp only [Act.put, List.setIfInBounds_toArray, List.set_cons_zero, List.set_cons_succ]
            refine wpAnyH_take (i := 8) (oi := ⟨some 57, Op.indexAddr 25 (Operand.tmp 55) (Operand.tmp 56), 0, _, _, some (3, true)⟩) (v := .pointer (some ⟨g2, of2 + i * 37, none⟩)) rfl (by kernel_rfl) (by kernel_rfl) (by kernel_rfl) (fun _ _ _ h => h) (Or.inl ⟨by rfl, fun w hS => by obtain ⟨hs1, hs2, hs3⟩ := hS; go_simp⟩) hHeld ?_
            simp only [Act.put, List.setIfInBounds_toArray, List.set_cons_zero, List.set_cons_succ]
            refine wpAnyH_take (i := 9) (oi := ⟨some 58, Op.fieldAddr 79 (Operand.tmp 57) 1, 0, _, _, some (3, true)⟩) (v := .pointer (some ⟨g2, of2 + i * 37 + 1, none⟩)) rfl (by kernel_rfl) (by kernel_rfl) (by kernel_rfl) (fun _ _ _ h => h) (Or.inl ⟨by rfl, fun w hS => by obtain ⟨hs1, hs2, hs3⟩ := hS; go_simp⟩) hHeld ?_
            simp only [Act.put, List.setIfInBounds_toArray, List.set_cons_zero, List.set_cons_succ]
            refine wpAnyH_take (i := 10) (oi := ⟨some 59, Op.load 9 (Operand.tmp 58), 9, _, _, some (3, true)⟩) (v := .string x.key) rfl (by kernel_rfl) (by kernel_rfl) (by kernel_rfl) (fun _ _ _ h => h) (Or.inl ⟨by rfl, fun w hS => by obtain ⟨hs1, hs2, hs3⟩ := hS; go_simp⟩) hHeld ?_
            simp only [Act.put, List.setIfInBounds_toArray, List.set_cons_zero, List.set_cons_succ]
            refine wpAnyH_take (i := 11) (oi := ⟨some 60, Op.binOp BinOp.eql 9 (Operand.tmp 54) (Operand.tmp 59) 9, 4, _, _, some (3, true)⟩) (v := .bool (it.key.toList == x.key.toList)) rfl (by kernel_rfl) (by kernel_rfl) (by kernel_rfl) (fun _ _ _ h => h) (Or.inl ⟨by rfl, fun w hS => by obtain ⟨hs1, hs2, hs3⟩ := hS; go_simp⟩) hHeld ?_
            simp only [Act.put, List.setIfInBounds_toArray, List.set_cons_zero, List.set_cons_succ]
            refine wpAnyH_take (i := 12) (oi := ⟨some 61, Op.pick (Operand.tmp 52) (Operand.tmp 60) (Operand.const (Value.bool false)), 4, _, _, none⟩) (v := .bool (it.key.toList == x.key.toList)) rfl (by kernel_rfl) (by kernel_rfl) (by kernel_rfl) (fun _ _ _ h => h) (Or.inl ⟨by rfl, fun w hS => by obtain ⟨hs1, hs2, hs3⟩ := hS; go_simp⟩) hHeld ?_
            simp only [Act.put, List.setIfInBounds_toArray, List.set_cons_zero, List.set_cons_succ]
            refine wpAnyH_take (i := 13) (oi := ⟨some 4, Op.assign (Operand.tmp 61), 4, _, _, none⟩) (v := .bool (it.key.toList == x.key.toList)) rfl (by kernel_rfl) (by kernel_rfl) (by kernel_rfl) (fun _ _ _ h => h) (Or.inl ⟨by rfl, fun w hS => by obtain ⟨hs1, hs2, hs3⟩ := hS; go_simp⟩) hHeld ?_
            simp only [Act.put, List.setIfInBounds_toArray, List.set_cons_zero, List.set_cons_succ]
            refine wpAnyH_done (by kernel_rfl) ?_ _
            refine hK9 _ _ ?_
            refine wp_ret ?_
            go_ret
            have e : (x.op - 1).toNat = t := by omega
            have hgt : (l.take i).getD t zeroOp = it := by rw [hit.out]; simp [List.getD_eq_getElem?_getD, hti, List.getElem?_take]
            exact ⟨by rw [HM.out, if_neg (by simp; omega), if_neg (by simp), if_neg (by have := Hlt.out; omega), e, hgt, hk8, beq_toListBytes]; rfl, HW1.out.trans ((HG.out.drew).mono HW1.out.size)⟩
          · skip
            refine wp_region_held_drew (S := fun wx => wx.cell? ⟨w1.heap.size, 0, none⟩ = some (.int .i64 it.kind) ∧ wx.cell? ⟨w1.heap.size, 1, none⟩ = some (.string it.key) ∧ wx.cell? ⟨g2, of2 + i * 37 + 1, none⟩ = some (.string x.key)) (by kernel_rfl) (HS2.out) (fun hHeld => ?_)
            refine wpAnyH_take (i := 0) (oi := ⟨some 49, Op.fieldAddr 79 (Operand.tmp 7) 0, 0, _, _, none⟩) (v := .pointer (some ⟨w1.heap.size, 0, none⟩)) rfl (by kernel_rfl) (by kernel_rfl) (by kernel_rfl) (fun _ _ _ h => h) (Or.inl ⟨by rfl, fun w hS => by obtain ⟨hs1, hs2, hs3⟩ := hS; go_simp⟩) hHeld ?_
            simp only [Act.put, List.setIfInBounds_toArray, List.set_cons_zero, List.set_cons_succ]
            refine wpAnyH_take (i := 1) (oi := ⟨some 50, Op.load 3 (Operand.tmp 49), 3, _, _, none⟩) (v := .int .i64 it.kind) rfl (by kernel_rfl) (by kernel_rfl) (by kernel_rfl) (fun _ _ _ h => h) (Or.inl ⟨by rfl, fun w hS => by obtain ⟨hs1, hs2, hs3⟩ := hS; go_simp⟩) hHeld ?_
            simp only [Act.put, List.setIfInBounds_toArray, List.set_cons_zero, List.set_cons_succ]
            refine wpAnyH_take (i := 2) (oi := ⟨some 51, Op.binOp BinOp.eql 3 (Operand.tmp 50) (Operand.const (Value.int IntKind.i64 8)) 3, 4, _, _, none⟩) (v := .bool false) rfl (by kernel_rfl) (by kernel_rfl) (by kernel_rfl) (fun _ _ _ h => h) (Or.inl ⟨by rfl, fun w hS => by obtain ⟨hs1, hs2, hs3⟩ := hS; go_simp⟩) hHeld ?_
            simp only [Act.put, List.setIfInBounds_toArray, List.set_cons_zero, List.set_cons_succ]
            refine wpAnyH_take (i := 3) (oi := ⟨some 52, Op.move (Operand.tmp 51), 4, _, _, none⟩) (v := .bool false) rfl (by kernel_rfl) (by kernel_rfl) (by kernel_rfl) (fun _ _ _ h => h) (Or.inl ⟨by rfl, fun w hS => by obtain ⟨hs1, hs2, hs3⟩ := hS; go_simp⟩) hHeld ?_
            simp only [Act.put, List.setIfInBounds_toArray, List.set_cons_zero, List.set_cons_succ]
            refine wpAnyH_take (i := 4) (oi := ⟨some 53, Op.fieldAddr 79 (Operand.tmp 7) 1, 0, _, _, some (3, true)⟩) (v := undef) rfl (by kernel_rfl) (by kernel_rfl) (by kernel_rfl) (fun _ _ _ h => h) (Or.inr ⟨by rfl, rfl⟩) hHeld ?_
            simp only [Act.put, List.setIfInBounds_toArray, List.set_cons_zero, List.set_cons_succ]
            refine wpAnyH_take (i := 5) (oi := ⟨some 54, Op.load 9 (Operand.tmp 53), 9, _, _, some (3, true)⟩) (v := undef) rfl (by kernel_rfl) (by kernel_rfl) (by kernel_rfl) (fun _ _ _ h => h) (Or.inr ⟨by rfl, rfl⟩) hHeld ?_
            simp only [Act.put, List.setIfInBounds_toArray, List.set_cons_zero, List.set_cons_succ]
            refine wpAnyH_take (i := 6) (oi := ⟨some 55, Op.move (Operand.tmp 0), 25, _, _, some (3, true)⟩) (v := undef) rfl (by kernel_rfl) (by kernel_rfl) (by kernel_rfl) (fun _ _ _ h => h) (Or.inr ⟨by rfl, rfl⟩) hHeld ?_
            simp only [Act.put, List.setIfInBounds_toArray, List.set_cons_zero, List.set_cons_succ]
            refine wpAnyH_take (i := 7) (oi := ⟨some 56, Op.move (Operand.tmp 1), 3, _, _, some (3, true)⟩) (v := undef) rfl (by kernel_rfl) (by kernel_rfl) (by kernel_rfl) (fun _ _ _ h => h) (Or.inr ⟨by rfl, rfl⟩) hHeld ?_
            simp only [Act.put, List.setIfInBounds_toArray, List.set_cons_zero, List.set_cons_succ]
            refine wpAnyH_take (i := 8) (oi := ⟨some 57, Op.indexAddr 25 (Operand.tmp 55) (Operand.tmp 56), 0, _, _, some (3, true)⟩) (v := undef) rfl (by kernel_rfl) (by kernel_rfl) (by kernel_rfl) (fun _ _ _ h => h) (Or.inr ⟨by rfl, rfl⟩) hHeld ?_
            simp only [Act.put, List.setIfInBounds_toArray, List.set_cons_zero, List.set_cons_succ]
            refine wpAnyH_take (i := 9) (oi := ⟨some 58, Op.fieldAddr 79 (Operand.tmp 57) 1, 0, _, _, some (3, true)⟩) (v := undef) rfl (by kernel_rfl) (by kernel_rfl) (by kernel_rfl) (fun _ _ _ h => h) (Or.inr ⟨by rfl, rfl⟩) hHeld ?_
            simp only [Act.put, List.setIfInBounds_toArray, List.set_cons_zero, List.set_cons_succ]
            refine wpAnyH_take (i := 10) (oi := ⟨some 59, Op.load 9 (Operand.tmp 58), 9, _, _, some (3, true)⟩) (v := undef) rfl (by kernel_rfl) (by kernel_rfl) (by kernel_rfl) (fun _ _ _ h => h) (Or.inr ⟨by rfl, rfl⟩) hHeld ?_
            simp only [Act.put, List.setIfInBounds_toArray, List.set_cons_zero, List.set_cons_succ]
            refine wpAnyH_take (i := 11) (oi := ⟨some 60, Op.binOp BinOp.eql 9 (Operand.tmp 54) (Operand.tmp 59) 9, 4, _, _, some (3, true)⟩) (v := undef) rfl (by kernel_rfl) (by kernel_rfl) (by kernel_rfl) (fun _ _ _ h => h) (Or.inr ⟨by rfl, rfl⟩) hHeld ?_
            simp only [Act.put, List.setIfInBounds_toArray, List.set_cons_zero, List.set_cons_succ]
            refine wpAnyH_take (i := 12) (oi := ⟨some 61, Op.pick (Operand.tmp 52) (Operand.tmp 60) (Operand.const (Value.bool false)), 4, _, _, none⟩) (v := .bool false) rfl (by kernel_rfl) (by kernel_rfl) (by kernel_rfl) (fun _ _ _ h => h) (Or.inl ⟨by rfl, fun w hS => by obtain ⟨hs1, hs2, hs3⟩ := hS; go_simp⟩) hHeld ?_
            simp only [Act.put, List.setIfInBounds_toArray, List.set_cons_zero, List.set_cons_succ]
            refine wpAnyH_take (i := 13) (oi := ⟨some 4, Op.assign (Operand.tmp 61), 4, _, _, none⟩) (v := .bool false) rfl (by kernel_rfl) (by kernel_rfl) (by kernel_rfl) (fun _ _ _ h => h) (Or.inl ⟨by rfl, fun w hS => by obtain ⟨hs1, hs2, hs3⟩ := hS; go_simp⟩) hHeld ?_
            simp only [Act.put, List.setIfInBounds_toArray, List.set_cons_zero, List.set_cons_succ]
            refine wpAnyH_done (by kernel_rfl) ?_ _
            refine hK9 _ _ ?_
            refine wp_ret ?_
            go_ret
            have e : (x.op - 1).toNat = t := by omega
            have hgt : (l.take i).getD t zeroOp = it := by rw [hit.out]; simp [List.getD_eq_getElem?_getD, hti, List.getElem?_take]
            exact ⟨by rw [HM.out, if_neg (by simp; omega), if_neg (by simp), if_neg (by have := Hlt.out; omega), e, hgt, show (it.kind == 8) = false by simpa using hk8]; rfl, HW1.out.trans ((HG.out.drew).mono HW1.out.size)⟩
        · skip
          refine WL.val (by kernel_rfl) (.bool false) (by go_simp) ?_
          simp only [Act.put, List.setIfInBounds_toArray, List.set_cons_zero, List.set_cons_succ]
          refine WL.val (by kernel_rfl) (.bool false) (by go_simp) ?_
          simp only [Act.put, List.setIfInBounds_toArray, List.set_cons_zero, List.set_cons_succ]
          refine WL.val (by kernel_rfl) (.bool false) (by go_simp) ?_
          simp only [Act.put, List.setIfInBounds_toArray, List.set_cons_zero, List.set_cons_succ]
          refine WL.nil ?_
          refine hK7 _ _ ?_
          refine wp_cond_false rfl ?_
          refine wp_seq_k fun K10 hK10 => ?_
          refine wp_region_list (WL.out ?_)
          refine WL.val (by kernel_rfl) (.bool true) (by go_simp) ?_
          simp only [Act.put, List.setIfInBounds_toArray, List.set_cons_zero, List.set_cons_succ]
          refine WL.val (by kernel_rfl) (.bool true) (by go_simp) ?_
          simp only [Act.put, List.setIfInBounds_toArray, List.set_cons_zero, List.set_cons_succ]
          refine WL.nil ?_
          refine hK10 _ _ ?_
          refine wp_cond_true rfl ?_
          refine wp_seq_k fun K11 hK11 => ?_
          refine wp_region_list (WL.out ?_)
          refine WL.val (by kernel_rfl) (.bool false) (by go_simp) ?_
          simp only [Act.put, List.setIfInBounds_toArray, List.set_cons_zero, List.set_cons_succ]
          refine WL.nil ?_
          refine hK11 _ _ ?_
          refine wp_ret ?_
          go_ret
          exact ⟨by rw [HM.out, if_neg (by simp; omega), if_neg (by simp), if_pos (by have := Hlt.out; omega)]; rfl, HW1.out⟩
      · skip
        refine WL.val (by kernel_rfl) (.bool false) (by go_simp) ?_
        simp only [Act.put, List.setIfInBounds_toArray, List.set_cons_zero, List.set_cons_succ]
        refine WL.val (by kernel_rfl) (.bool false) (by go_simp) ?_
        simp only [Act.put, List.setIfInBounds_toArray, List.set_cons_zero, List.set_cons_succ]
        refine WL.val (by kernel_rfl) (.bool false) (by go_simp) ?_
        simp only [Act.put, List.setIfInBounds_toArray, List.set_cons_zero, List.set_cons_succ]
        refine WL.skip (by kernel_rfl) ?_
        simp only [Act.put, List.setIfInBounds_toArray, List.set_cons_zero, List.set_cons_succ]
        refine WL.skip (by kernel_rfl) ?_
        simp only [Act.put, List.setIfInBounds_toArray, List.set_cons_zero, List.set_cons_succ]
        refine WL.skip (by kernel_rfl) ?_
        simp only [Act.put, List.setIfInBounds_toArray, List.set_cons_zero, List.set_cons_succ]
        refine WL.skip (by kernel_rfl) ?_
        simp only [Act.put, List.setIfInBounds_toArray, List.set_cons_zero, List.set_cons_succ]
        refine WL.val (by kernel_rfl) (.bool false) (by go_simp) ?_
        simp only [Act.put, List.setIfInBounds_toArray, List.set_cons_zero, List.set_cons_succ]
        refine WL.val (by kernel_rfl) (.bool false) (by go_simp) ?_
        simp only [Act.put, List.setIfInBounds_toArray, List.set_cons_zero, List.set_cons_succ]
        refine WL.nil ?_
        refine hK7 _ _ ?_
        refine wp_cond_false rfl ?_
        refine wp_seq_k fun K12 hK12 => ?_
        refine wp_region_list (WL.out ?_)
        refine WL.val (by kernel_rfl) (.bool true) (by go_simp) ?_
        simp only [Act.put, List.setIfInBounds_toArray, List.set_cons_zero, List.set_cons_succ]
        refine WL.val (by kernel_rfl) (.bool true) (by go_simp) ?_
        simp only [Act.put, List.setIfInBounds_toArray, List.set_cons_zero, List.set_cons_succ]
        refine WL.nil ?_
        refine hK12 _ _ ?_
        refine wp_cond_true rfl ?_
        refine wp_seq_k fun K13 hK13 => ?_
        refine wp_region_list (WL.out ?_)
        refine WL.val (by kernel_rfl) (.bool false) (by go_simp) ?_
        simp only [Act.put, List.setIfInBounds_toArray, List.set_cons_zero, List.set_cons_succ]
        refine WL.nil ?_
        refine hK13 _ _ ?_
        refine wp_ret ?_
        go_ret
        exact ⟨by rw [HM.out, if_neg (by simp; omega), if_neg (by simp), if_pos (by have := Hlt.out; omega)]; rfl, HW1.out⟩
  · rw [h2_3] at he HM
    refine WL.val (by kernel_rfl) (.bool false) (by go_simp) ?_
    simp only [Act.put, List.setIfInBounds_toArray, List.set_cons_zero, List.set_cons_succ]
    refine WL.val (by kernel_rfl) (.bool false) (by go_simp) ?_
    simp only [Act.put, List.setIfInBounds_toArray, List.set_cons_zero, List.set_cons_succ]
    refine WL.nil ?_
    refine hK3 _ _ ?_
    refine wp_seq_k fun K14 hK14 => ?_
    refine wp_block ?_
    refine wp_seq_k fun K15 hK15 => ?_
    refine wp_region_list (WL.out ?_)
    refine WL.val (by kernel_rfl) (.bool false) (by go_simp) ?_
    simp only [Act.put, List.setIfInBounds_toArray, List.set_cons_zero, List.set_cons_succ]
    refine WL.val (by kernel_rfl) (.bool false) (by go_simp) ?_
    simp only [Act.put, List.setIfInBounds_toArray, List.set_cons_zero, List.set_cons_succ]
    refine WL.skip (by kernel_rfl) ?_
    simp only [Act.put, List.setIfInBounds_toArray, List.set_cons_zero, List.set_cons_succ]
    refine WL.skip (by kernel_rfl) ?_
    simp only [Act.put, List.setIfInBounds_toArray, List.set_cons_zero, List.set_cons_succ]
    refine WL.skip (by kernel_rfl) ?_
    simp only [Act.put, List.setIfInBounds_toArray, List.set_cons_zero, List.set_cons_succ]
    refine WL.val (by kernel_rfl) (.bool false) (by go_simp) ?_
    simp only [Act.put, List.setIfInBounds_toArray, List.set_cons_zero, List.set_cons_succ]
    refine WL.val (by kernel_rfl) (.bool false) (by go_simp) ?_
    simp only [Act.put, List.setIfInBounds_toArray, List.set_cons_zero, List.set_cons_succ]
    refine WL.nil ?_
    refine hK15 _ _ ?_
    refine wp_cond_false rfl ?_
    refine wp_seq_k fun K16 hK16 => ?_
    refine wp_region_list (WL.out ?_)
    refine WL.val (by kernel_rfl) (.bool false) (by go_simp) ?_
    simp only [Act.put, List.setIfInBounds_toArray, List.set_cons_zero, List.set_cons_succ]
    refine WL.val (by kernel_rfl) (.bool false) (by go_simp) ?_
    simp only [Act.put, List.setIfInBounds_toArray, List.set_cons_zero, List.set_cons_succ]
    refine WL.skip (by kernel_rfl) ?_
    simp only [Act.put, List.setIfInBounds_toArray, List.set_cons_zero, List.set_cons_succ]
    refine WL.skip (by kernel_rfl) ?_
    simp only [Act.put, List.setIfInBounds_toArray, List.set_cons_zero, List.set_cons_succ]
    refine WL.skip (by kernel_rfl) ?_
    simp only [Act.put, List.setIfInBounds_toArray, List.set_cons_zero, List.set_cons_succ]
    refine WL.val (by kernel_rfl) (.bool false) (by go_simp) ?_
    simp only [Act.put, List.setIfInBounds_toArray, List.set_cons_zero, List.set_cons_succ]
    refine WL.val (by kernel_rfl) (.bool false) (by go_simp) ?_
    simp only [Act.put, List.setIfInBounds_toArray, List.set_cons_zero, List.set_cons_succ]
    refine WL.skip (by kernel_rfl) ?_
    simp only [Act.put, List.setIfInBounds_toArray, List.set_cons_zero, List.set_cons_succ]
    refine WL.skip (by kernel_rfl) ?_
    simp only [Act.put, List.setIfInBounds_toArray, List.set_cons_zero, List.set_cons_succ]
    refine WL.skip (by kernel_rfl) ?_
    simp only [Act.put, List.setIfInBounds_toArray, List.set_cons_zero, List.set_cons_succ]
    refine WL.skip (by kernel_rfl) ?_
    simp only [Act.put, List.setIfInBounds_toArray, List.set_cons_zero, List.set_cons_succ]
    refine WL.val (by kernel_rfl) (.bool false) (by go_simp) ?_
    simp only [Act.put, List.setIfInBounds_toArray, List.set_cons_zero, List.set_cons_succ]
    refine WL.val (by kernel_rfl) (.bool false) (by go_simp) ?_
    simp only [Act.put, List.setIfInBounds_toArray, List.set_cons_zero, List.set_cons_succ]
    refine WL.nil ?_
    refine hK16 _ _ ?_
    refine wp_cond_false rfl ?_
    refine wp_seq_k fun K17 hK17 => ?_
    refine wp_region_list (WL.out ?_)
    refine WL.val (by kernel_rfl) (.bool false) (by go_simp) ?_
    simp only [Act.put, List.setIfInBounds_toArray, List.set_cons_zero, List.set_cons_succ]
    refine WL.val (by kernel_rfl) (.bool false) (by go_simp) ?_
    simp only [Act.put, List.setIfInBounds_toArray, List.set_cons_zero, List.set_cons_succ]
    refine WL.nil ?_
    refine hK17 _ _ ?_
    refine wp_cond_false rfl ?_
    refine wp_skip ?_
    refine hK14 _ _ ?_
    refine wp_seq_k fun K18 hK18 => ?_
    refine wp_region_list (WL.out ?_)
    refine WL.val (by kernel_rfl) (.pointer (some ⟨w.heap.size, 32, none⟩)) (by go_simp) ?_
    simp only [Act.put, List.setIfInBounds_toArray, List.set_cons_zero, List.set_cons_succ]
    refine WL.val (by kernel_rfl) (.int .i64 x.op) (by go_simp) ?_
    simp only [Act.put, List.setIfInBounds_toArray, List.set_cons_zero, List.set_cons_succ]
    by_cases h10_2 : 1 ≤ x.op
    · skip
      refine WL.val (by kernel_rfl) (.bool true) (by go_simp) ?_
      simp only [Act.put, List.setIfInBounds_toArray, List.set_cons_zero, List.set_cons_succ]
      refine WL.val (by kernel_rfl) (.bool true) (by go_simp) ?_
      simp only [Act.put, List.setIfInBounds_toArray, List.set_cons_zero, List.set_cons_succ]
      refine WL.val (by kernel_rfl) (.pointer (some ⟨w.heap.size, 32, none⟩)) (by go_simp) ?_
      simp only [Act.put, List.setIfInBounds_toArray, List.set_cons_zero, List.set_cons_succ]
      refine WL.val (by kernel_rfl) (.int .i64 x.op) (by go_simp) ?_
      simp only [Act.put, List.setIfInBounds_toArray, List.set_cons_zero, List.set_cons_succ]
      by_cases h10_6 : x.op ≤ 1024
      · skip
        refine WL.val (by kernel_rfl) (.bool true) (by go_simp) ?_
        simp only [Act.put, List.setIfInBounds_toArray, List.set_cons_zero, List.set_cons_succ]
        refine WL.val (by kernel_rfl) (.bool true) (by go_simp) ?_
        simp only [Act.put, List.setIfInBounds_toArray, List.set_cons_zero, List.set_cons_succ]
        refine WL.val (by kernel_rfl) (.bool true) (by go_simp) ?_
        simp only [Act.put, List.setIfInBounds_toArray, List.set_cons_zero, List.set_cons_succ]
        refine WL.nil ?_
        refine hK18 _ _ ?_
        refine wp_ret ?_
        go_ret
        exact ⟨by rw [HM.out, if_neg (by simp), if_pos rfl, decide_eq_true (show 1 ≤ x.op by omega), decide_eq_true (show x.op ≤ 1024 by omega)]; rfl, HW1.out⟩
      · skip
        refine WL.val (by kernel_rfl) (.bool false) (by go_simp) ?_
        simp only [Act.put, List.setIfInBounds_toArray, List.set_cons_zero, List.set_cons_succ]
        refine WL.val (by kernel_rfl) (.bool false) (by go_simp) ?_
        simp only [Act.put, List.setIfInBounds_toArray, List.set_cons_zero, List.set_cons_succ]
        refine WL.val (by kernel_rfl) (.bool false) (by go_simp) ?_
        simp only [Act.put, List.setIfInBounds_toArray, List.set_cons_zero, List.set_cons_succ]
        refine WL.nil ?_
        refine hK18 _ _ ?_
        refine wp_ret ?_
        go_ret
        exact ⟨by rw [HM.out, if_neg (by simp), if_pos rfl, decide_eq_true (show 1 ≤ x.op by omega), decide_eq_false (show ¬ x.op ≤ 1024 by omega)]; rfl, HW1.out⟩
    · skip
      refine WL.val (by kernel_rfl) (.bool false) (by go_simp) ?_
      simp only [Act.put, List.setIfInBounds_toArray, List.set_cons_zero, List.set_cons_succ]
      refine WL.val (by kernel_rfl) (.bool false) (by go_simp) ?_
      simp only [Act.put, List.setIfInBounds_toArray, List.set_cons_zero, List.set_cons_succ]
      refine WL.skip (by kernel_rfl) ?_
      simp only [Act.put, List.setIfInBounds_toArray, List.set_cons_zero, List.set_cons_succ]
      refine WL.skip (by kernel_rfl) ?_
      simp only [Act.put, List.setIfInBounds_toArray, List.set_cons_zero, List.set_cons_succ]
      refine WL.skip (by kernel_rfl) ?_
      simp only [Act.put, List.setIfInBounds_toArray, List.set_cons_zero, List.set_cons_succ]
      refine WL.val (by kernel_rfl) (.bool false) (by go_simp) ?_
      simp only [Act.put, List.setIfInBounds_toArray, List.set_cons_zero, List.set_cons_succ]
      refine WL.val (by kernel_rfl) (.bool false) (by go_simp) ?_
      simp only [Act.put, List.setIfInBounds_toArray, List.set_cons_zero, List.set_cons_succ]
      refine WL.nil ?_
      refine hK18 _ _ ?_
      refine wp_ret ?_
      go_ret
      exact ⟨by rw [HM.out, if_neg (by simp), if_pos rfl, decide_eq_false (show ¬ 1 ≤ x.op by omega)]; rfl, HW1.out⟩

def fbad (x : OpV) : Bool := (!txt x.kind && !(x.text.toList == [])) || (!(x.kind == 6) && !(x.n == 0)) || (!hat x.kind && !(nd x.node z32 && x.op == 0))
theorem empty_list : (ByteArray.empty).toList = [] := by rw [ByteArray.toList_eq]; rfl
theorem empty_list' : ({ data := #[] } : ByteArray).toList = [] := by rw [ByteArray.toList_eq]
theorem empty_beq : (({ data := #[] } : ByteArray) == ByteArray.empty) = true := by decide
theorem text_beq (t : ByteArray) : (t == ByteArray.empty) = (t.toList == []) := by rw [beq_toListBytes, empty_list]
theorem fbad_eq (x : OpV) (h : hasI x.kind ≠ []) : sm (wipes (hasI x.kind) { x with kind := 0 }) zeroOp = !fbad x := by
  have hk := hasI_mem h
  obtain ⟨kind, key, text, n, node, op⟩ := x
  simp only [List.mem_cons, List.not_mem_nil, or_false] at hk
  rcases hk with rfl | rfl | rfl | rfl | rfl | rfl | rfl | rfl | rfl <;>
    simp [hasI, wipes, wipe, sm, zeroOp, fbad, txt, hat, nd_refl, text_beq, empty_list', Bool.and_assoc]
theorem hat_eq (x : OpV) (h : hasI x.kind ≠ []) : (cellV x.kind = 4) = (hat x.kind = true) := by
  have hk := hasI_mem h
  simp only [List.mem_cons, List.not_mem_nil, or_false] at hk
  rcases hk with e | e | e | e | e | e | e | e | e <;> rw [e] <;> simp [cellV, hat]
def rwrongV (l : List OpV) (x : OpV) : Int := if x.kind < 1 then 40 else if 9 < x.kind then 40 else if 65536 < x.key.size then 4 else if 65536 < x.text.size then 4 else if fbad x = true then 41 else if hat x.kind = true then (if mayAt l x = true then 0 else 42) else 0
theorem rwrong_eq (l : List OpV) (x : OpV) : rwrongV l x = wrongV l x := by
  unfold rwrongV wrongV
  by_cases h : hasI x.kind = []
  · rw [if_pos h]
    by_cases h1 : x.kind < 1
    · rw [if_pos h1]
    · rw [if_neg h1]
      by_cases h2 : 9 < x.kind
      · rw [if_pos h2]
      · exact absurd h (hasI_some x.kind (by simp only [List.mem_cons, List.not_mem_nil, or_false]; omega))
  · have hr := hasI_rng h
    rw [if_neg h, if_neg (show ¬ x.kind < 1 by omega), if_neg (show ¬ 9 < x.kind by omega), fbad_eq x h]
    simp only [hat_eq x h]
    cases fbad x <;> simp
set_option maxRecDepth 8000 in
set_option maxHeartbeats 4000000 in
theorem rwrong_any (v : Value) (l : List OpV) (i : Nat) (w : World) (hl : OpsAt w v l) (hi : i < l.length) (hb : l.length ≤ 4398046511104) (hok : OpOk (l.getD i zeroOp)) :
    Calls Try.prog 55 #[v, .int .i64 (i : Int)] w fun e w' => e = .returned (.int .i64 (wrongV (l.take i) (l.getD i zeroOp))) ∧ Below w.heap.size w w' := by
  obtain ⟨va, vc, rfl⟩ := hl.form
  obtain ⟨gL, ofL, hva, hr⟩ := hl.at hi
  obtain ⟨x, hx0⟩ : ∃ x, Keep (x = l.getD i zeroOp) := ⟨_, ⟨rfl⟩⟩
  rw [← hx0.out] at hr hok ⊢
  obtain ⟨R, hR⟩ : ∃ R, R = wrongV (l.take i) x := ⟨_, rfl⟩
  rw [← hR]
  rw [← rwrong_eq] at hR
  unfold rwrongV at hR
  have HR := Keep.mk hR
  have HL := Keep.mk hl
  have HRx := Keep.mk hr
  have Hi := Keep.mk hi
  have Hlb := Keep.mk hb
  have Hok := Keep.mk hok
  have hi' : (i : Int) < (l.length : Int) := by omega
  have hk1 : (x.key.size : Int) ≤ 9223372036854775807 := by have := hok.key; omega
  have hk2 : (x.text.size : Int) ≤ 9223372036854775807 := by have := hok.text; omega
  have HX := Keep.mk ((Blk.new w 79 (opA zeroOp)).setRow (opA x))
  have HW1 : Keep (Below w.heap.size w ((w.alloc (.cells (opA zeroOp) 79)).setRow w.heap.size (opA x))) := ⟨below_setRow (below_new w _) (Nat.le_refl _) _⟩
  obtain ⟨w1, hw1⟩ : ∃ w1, Keep ((w.alloc (.cells (opA zeroOp) 79)).setRow w.heap.size (opA x) = w1) := ⟨_, ⟨rfl⟩⟩
  rw [hw1.out] at HX HW1
  have c0 := HX.out.c 0 (opA_0 x)
  clear hl hi hb hok hr hR
  go_enter Try.func55, Try.ntmps55
  refine wp_seq_k fun K1 hK1 => ?_
  refine wp_region_list (WL.out ?_)
  refine WL.val (by kernel_rfl) (.int .i64 0) (by go_simp) ?_
  simp only [Act.put, List.setIfInBounds_toArray, List.set_cons_zero, List.set_cons_succ]
  refine WL.nil ?_
  refine hK1 _ _ ?_
  refine wp_seq_k fun K2 hK2 => ?_
  refine wp_region_list (WL.out ?_)
  refine WL.val (by kernel_rfl) (.slice va l.length vc) (by go_simp) ?_
  simp only [Act.put, List.setIfInBounds_toArray, List.set_cons_zero, List.set_cons_succ]
  refine WL.val (by kernel_rfl) (.int .i64 (i : Int)) (by go_simp) ?_
  simp only [Act.put, List.setIfInBounds_toArray, List.set_cons_zero, List.set_cons_succ]
  refine WL.val (by kernel_rfl) (.pointer (some ⟨gL, ofL + i * 37, none⟩)) (by go_simp) ?_
  simp only [Act.put, List.setIfInBounds_toArray, List.set_cons_zero, List.set_cons_succ]
  refine WL.mid (by kernel_rfl) 79 (.tmp 12) rfl gL (ofL + i * 37) rfl (opL x) _ HRx.out Try.underlying79 rfl (Try.size79L x) ?_
  rw [rng_load]
  simp only [Act.put, List.setIfInBounds_toArray, List.set_cons_zero, List.set_cons_succ]
  refine WL.new (by kernel_rfl) 79 rfl _ Try.new79 ?_
  simp only [Act.put, List.setIfInBounds_toArray, List.set_cons_zero, List.set_cons_succ]
  refine WL.storeR (by kernel_rfl) 79 (.tmp 5) (.tmp 13) rfl w.heap.size (opA x) rfl rfl 79 (opA zeroOp) (Blk.new w 79 _) (Try.size79B x) (opA_sizes _ _) (opA_one x) ?_
  rw [hw1.out]
  simp only [Act.put]
  refine WL.nil ?_
  refine hK2 _ _ ?_
  refine wp_seq_k fun K3 hK3 => ?_
  refine wp_region_list (WL.out ?_)
  refine WL.val (by kernel_rfl) (.pointer (some ⟨w.heap.size, 0, none⟩)) (by go_simp) ?_
  simp only [Act.put, List.setIfInBounds_toArray, List.set_cons_zero, List.set_cons_succ]
  refine WL.val (by kernel_rfl) (.int .i64 x.kind) (by go_simp) ?_
  simp only [Act.put, List.setIfInBounds_toArray, List.set_cons_zero, List.set_cons_succ]
  refine WL.callF (by kernel_rfl) 73 _ _ rfl Try.in73 #[.int .i64 x.kind] (by simp [Act.eval]) ?_
  refine (hasText_any x.kind w1).mono ?_
  rintro e w3 ⟨rfl, hw3⟩
  subst hw3
  refine ⟨_, rfl, ?_⟩
  simp only [Act.put, List.setIfInBounds_toArray, List.set_cons_zero, List.set_cons_succ]
  refine WL.val (by kernel_rfl) (.bool (txt x.kind)) (by go_simp) ?_
  simp only [Act.put, List.setIfInBounds_toArray, List.set_cons_zero, List.set_cons_succ]
  refine WL.nil ?_
  refine hK3 _ _ ?_
  refine wp_seq_k fun K4 hK4 => ?_
  refine wp_region_list (WL.out ?_)
  refine WL.val (by kernel_rfl) (.pointer (some ⟨w.heap.size, 0, none⟩)) (by go_simp) ?_
  simp only [Act.put, List.setIfInBounds_toArray, List.set_cons_zero, List.set_cons_succ]
  refine WL.val (by kernel_rfl) (.int .i64 x.kind) (by go_simp) ?_
  simp only [Act.put, List.setIfInBounds_toArray, List.set_cons_zero, List.set_cons_succ]
  refine WL.callF (by kernel_rfl) 75 _ _ rfl Try.in75 #[.int .i64 x.kind] (by simp [Act.eval]) ?_
  refine (hasAt_any x.kind w3).mono ?_
  rintro e w4 ⟨rfl, hw4⟩
  subst hw4
  refine ⟨_, rfl, ?_⟩
  simp only [Act.put, List.setIfInBounds_toArray, List.set_cons_zero, List.set_cons_succ]
  refine WL.val (by kernel_rfl) (.bool (hat x.kind)) (by go_simp) ?_
  simp only [Act.put, List.setIfInBounds_toArray, List.set_cons_zero, List.set_cons_succ]
  refine WL.nil ?_
  refine hK4 _ _ ?_
  refine wp_seq_k fun K5 hK5 => ?_
  refine wp_region_list (WL.out ?_)
  refine WL.val (by kernel_rfl) (.pointer (some ⟨w.heap.size, 4, none⟩)) (by go_simp) ?_
  simp only [Act.put, List.setIfInBounds_toArray, List.set_cons_zero, List.set_cons_succ]
  refine WL.midA (by kernel_rfl) 77 (.tmp 20) rfl w.heap.size 4 rfl (idA x.node x.op) _ (opA_range HX.out) Try.underlying77 rfl (Try.size77B _ _) ?_
  simp only [Act.put, List.setIfInBounds_toArray, List.set_cons_zero, List.set_cons_succ]
  refine WL.callF (by kernel_rfl) 84 _ _ rfl Try.in84 #[.agg (idA x.node x.op)] (by simp [Act.eval]) ?_
  refine (zero_any x.node x.op w4).mono ?_
  rintro e w5 ⟨rfl, h5⟩
  refine ⟨_, rfl, ?_⟩
  have HX5 := Keep.mk (HX.out.below h5 HX.out.lt)
  have HW5 := Keep.mk (HW1.out.trans (h5.mono HW1.out.size))
  have d0 := HX5.out.c 0 (opA_0 x)
  have d1 := HX5.out.c 1 (opA_1 x)
  have d2 := HX5.out.c 2 (opA_2 x)
  have d3 := HX5.out.c 3 (opA_3 x)
  clear h5
  simp only [Act.put, List.setIfInBounds_toArray, List.set_cons_zero, List.set_cons_succ]
  refine WL.val (by kernel_rfl) (.bool (nd x.node z32 && x.op == 0)) (by go_simp) ?_
  simp only [Act.put, List.setIfInBounds_toArray, List.set_cons_zero, List.set_cons_succ]
  refine WL.nil ?_
  refine hK5 _ _ ?_
  refine wp_seq_k fun K6 hK6 => ?_
  refine wp_block ?_
  refine wp_seq_k fun K7 hK7 => ?_
  refine wp_region_list (WL.out ?_)
  refine WL.val (by kernel_rfl) (.pointer (some ⟨w.heap.size, 0, none⟩)) (by go_simp) ?_
  simp only [Act.put, List.setIfInBounds_toArray, List.set_cons_zero, List.set_cons_succ]
  refine WL.val (by kernel_rfl) (.int .i64 x.kind) (by go_simp) ?_
  simp only [Act.put, List.setIfInBounds_toArray, List.set_cons_zero, List.set_cons_succ]
  by_cases h5_2 : x.kind < 1
  · skip
    refine WL.val (by kernel_rfl) (.bool true) (by go_simp) ?_
    simp only [Act.put, List.setIfInBounds_toArray, List.set_cons_zero, List.set_cons_succ]
    refine WL.val (by kernel_rfl) (.bool true) (by go_simp) ?_
    simp only [Act.put, List.setIfInBounds_toArray, List.set_cons_zero, List.set_cons_succ]
    refine WL.skip (by kernel_rfl) ?_
    simp only [Act.put, List.setIfInBounds_toArray, List.set_cons_zero, List.set_cons_succ]
    refine WL.skip (by kernel_rfl) ?_
    simp only [Act.put, List.setIfInBounds_toArray, List.set_cons_zero, List.set_cons_succ]
    refine WL.skip (by kernel_rfl) ?_
    simp only [Act.put, List.setIfInBounds_toArray, List.set_cons_zero, List.set_cons_succ]
    refine WL.val (by kernel_rfl) (.bool true) (by go_simp) ?_
    simp only [Act.put, List.setIfInBounds_toArray, List.set_cons_zero, List.set_cons_succ]
    refine WL.val (by kernel_rfl) (.bool true) (by go_simp) ?_
    simp only [Act.put, List.setIfInBounds_toArray, List.set_cons_zero, List.set_cons_succ]
    refine WL.nil ?_
    refine hK7 _ _ ?_
    refine wp_cond_true rfl ?_
    refine wp_seq_k fun K8 hK8 => ?_
    refine wp_region_list (WL.out ?_)
    refine WL.val (by kernel_rfl) (.int .i64 40) (by go_simp) ?_
    simp only [Act.put, List.setIfInBounds_toArray, List.set_cons_zero, List.set_cons_succ]
    refine WL.nil ?_
    refine hK8 _ _ ?_
    refine wp_ret ?_
    go_ret
    exact ⟨by rw [HR.out, if_pos (show x.kind < 1 by omega)]; rfl, HW5.out⟩
  · skip
    refine WL.val (by kernel_rfl) (.bool false) (by go_simp) ?_
    simp only [Act.put, List.setIfInBounds_toArray, List.set_cons_zero, List.set_cons_succ]
    refine WL.val (by kernel_rfl) (.bool false) (by go_simp) ?_
    simp only [Act.put, List.setIfInBounds_toArray, List.set_cons_zero, List.set_cons_succ]
    refine WL.val (by kernel_rfl) (.pointer (some ⟨w.heap.size, 0, none⟩)) (by go_simp) ?_
    simp only [Act.put, List.setIfInBounds_toArray, List.set_cons_zero, List.set_cons_succ]
    refine WL.val (by kernel_rfl) (.int .i64 x.kind) (by go_simp) ?_
    simp only [Act.put, List.setIfInBounds_toArray, List.set_cons_zero, List.set_cons_succ]
    by_cases h5_6 : 9 < x.kind
    · skip
      refine WL.val (by kernel_rfl) (.bool true) (by go_simp) ?_
      simp only [Act.put, List.setIfInBounds_toArray, List.set_cons_zero, List.set_cons_succ]
      refine WL.val (by kernel_rfl) (.bool true) (by go_simp) ?_
      simp only [Act.put, List.setIfInBounds_toArray, List.set_cons_zero, List.set_cons_succ]
      refine WL.val (by kernel_rfl) (.bool true) (by go_simp) ?_
      simp only [Act.put, List.setIfInBounds_toArray, List.set_cons_zero, List.set_cons_succ]
      refine WL.nil ?_
      refine hK7 _ _ ?_
      refine wp_cond_true rfl ?_
      refine wp_seq_k fun K9 hK9 => ?_
      refine wp_region_list (WL.out ?_)
      refine WL.val (by kernel_rfl) (.int .i64 40) (by go_simp) ?_
      simp only [Act.put, List.setIfInBounds_toArray, List.set_cons_zero, List.set_cons_succ]
      refine WL.nil ?_
      refine hK9 _ _ ?_
      refine wp_ret ?_
      go_ret
      exact ⟨by rw [HR.out, if_neg (show ¬ x.kind < 1 by omega), if_pos (show 9 < x.kind by omega)]; rfl, HW5.out⟩
    · skip
      refine WL.val (by kernel_rfl) (.bool false) (by go_simp) ?_
      simp only [Act.put, List.setIfInBounds_toArray, List.set_cons_zero, List.set_cons_succ]
      refine WL.val (by kernel_rfl) (.bool false) (by go_simp) ?_
      simp only [Act.put, List.setIfInBounds_toArray, List.set_cons_zero, List.set_cons_succ]
      refine WL.val (by kernel_rfl) (.bool false) (by go_simp) ?_
      simp only [Act.put, List.setIfInBounds_toArray, List.set_cons_zero, List.set_cons_succ]
      refine WL.nil ?_
      refine hK7 _ _ ?_
      refine wp_cond_false rfl ?_
      refine wp_seq_k fun K10 hK10 => ?_
      refine wp_region_list (WL.out ?_)
      refine WL.val (by kernel_rfl) (.pointer (some ⟨w.heap.size, 1, none⟩)) (by go_simp) ?_
      simp only [Act.put, List.setIfInBounds_toArray, List.set_cons_zero, List.set_cons_succ]
      refine WL.val (by kernel_rfl) (.string x.key) (by go_simp) ?_
      simp only [Act.put, List.setIfInBounds_toArray, List.set_cons_zero, List.set_cons_succ]
      refine WL.val (by kernel_rfl) (.int .i64 (x.key.size : Int)) (by go_simp) ?_
      simp only [Act.put, List.setIfInBounds_toArray, List.set_cons_zero, List.set_cons_succ]
      by_cases h7_3 : (65536 : Int) < (x.key.size : Int)
      · skip
        refine WL.val (by kernel_rfl) (.bool true) (by go_simp) ?_
        simp only [Act.put, List.setIfInBounds_toArray, List.set_cons_zero, List.set_cons_succ]
        refine WL.val (by kernel_rfl) (.bool true) (by go_simp) ?_
        simp only [Act.put, List.setIfInBounds_toArray, List.set_cons_zero, List.set_cons_succ]
        refine WL.skip (by kernel_rfl) ?_
        simp only [Act.put, List.setIfInBounds_toArray, List.set_cons_zero, List.set_cons_succ]
        refine WL.skip (by kernel_rfl) ?_
        simp only [Act.put, List.setIfInBounds_toArray, List.set_cons_zero, List.set_cons_succ]
        refine WL.skip (by kernel_rfl) ?_
        simp only [Act.put, List.setIfInBounds_toArray, List.set_cons_zero, List.set_cons_succ]
        refine WL.skip (by kernel_rfl) ?_
        simp only [Act.put, List.setIfInBounds_toArray, List.set_cons_zero, List.set_cons_succ]
        refine WL.val (by kernel_rfl) (.bool true) (by go_simp) ?_
        simp only [Act.put, List.setIfInBounds_toArray, List.set_cons_zero, List.set_cons_succ]
        refine WL.val (by kernel_rfl) (.bool true) (by go_simp) ?_
        simp only [Act.put, List.setIfInBounds_toArray, List.set_cons_zero, List.set_cons_succ]
        refine WL.nil ?_
        refine hK10 _ _ ?_
        refine wp_cond_true rfl ?_
        refine wp_seq_k fun K11 hK11 => ?_
        refine wp_region_list (WL.out ?_)
        refine WL.val (by kernel_rfl) (.int .i64 4) (by go_simp) ?_
        simp only [Act.put, List.setIfInBounds_toArray, List.set_cons_zero, List.set_cons_succ]
        refine WL.nil ?_
        refine hK11 _ _ ?_
        refine wp_ret ?_
        go_ret
        exact ⟨by rw [HR.out, if_neg (show ¬ x.kind < 1 by omega), if_neg (show ¬ 9 < x.kind by omega), if_pos (show 65536 < x.key.size by omega)]; rfl, HW5.out⟩
      · skip
        refine WL.val (by kernel_rfl) (.bool false) (by go_simp) ?_
        simp only [Act.put, List.setIfInBounds_toArray, List.set_cons_zero, List.set_cons_succ]
        refine WL.val (by kernel_rfl) (.bool false) (by go_simp) ?_
        simp only [Act.put, List.setIfInBounds_toArray, List.set_cons_zero, List.set_cons_succ]
        refine WL.val (by kernel_rfl) (.pointer (some ⟨w.heap.size, 2, none⟩)) (by go_simp) ?_
        simp only [Act.put, List.setIfInBounds_toArray, List.set_cons_zero, List.set_cons_succ]
        refine WL.val (by kernel_rfl) (.string x.text) (by go_simp) ?_
        simp only [Act.put, List.setIfInBounds_toArray, List.set_cons_zero, List.set_cons_succ]
        refine WL.val (by kernel_rfl) (.int .i64 (x.text.size : Int)) (by go_simp) ?_
        simp only [Act.put, List.setIfInBounds_toArray, List.set_cons_zero, List.set_cons_succ]
        by_cases h7_8 : (65536 : Int) < (x.text.size : Int)
        · skip
          refine WL.val (by kernel_rfl) (.bool true) (by go_simp) ?_
          simp only [Act.put, List.setIfInBounds_toArray, List.set_cons_zero, List.set_cons_succ]
          refine WL.val (by kernel_rfl) (.bool true) (by go_simp) ?_
          simp only [Act.put, List.setIfInBounds_toArray, List.set_cons_zero, List.set_cons_succ]
          refine WL.val (by kernel_rfl) (.bool true) (by go_simp) ?_
          simp only [Act.put, List.setIfInBounds_toArray, List.set_cons_zero, List.set_cons_succ]
          refine WL.nil ?_
          refine hK10 _ _ ?_
          refine wp_cond_true rfl ?_
          refine wp_seq_k fun K12 hK12 => ?_
          refine wp_region_list (WL.out ?_)
          refine WL.val (by kernel_rfl) (.int .i64 4) (by go_simp) ?_
          simp only [Act.put, List.setIfInBounds_toArray, List.set_cons_zero, List.set_cons_succ]
          refine WL.nil ?_
          refine hK12 _ _ ?_
          refine wp_ret ?_
          go_ret
          exact ⟨by rw [HR.out, if_neg (show ¬ x.kind < 1 by omega), if_neg (show ¬ 9 < x.kind by omega), if_neg (show ¬ 65536 < x.key.size by omega), if_pos (show 65536 < x.text.size by omega)]; rfl, HW5.out⟩
        · skip
          refine WL.val (by kernel_rfl) (.bool false) (by go_simp) ?_
          simp only [Act.put, List.setIfInBounds_toArray, List.set_cons_zero, List.set_cons_succ]
          refine WL.val (by kernel_rfl) (.bool false) (by go_simp) ?_
          simp only [Act.put, List.setIfInBounds_toArray, List.set_cons_zero, List.set_cons_succ]
          refine WL.val (by kernel_rfl) (.bool false) (by go_simp) ?_
          simp only [Act.put, List.setIfInBounds_toArray, List.set_cons_zero, List.set_cons_succ]
          refine WL.nil ?_
          refine hK10 _ _ ?_
          refine wp_cond_false rfl ?_
          refine wp_seq_k fun K13 hK13 => ?_
          refine wp_region_list (WL.out ?_)
          refine WL.val (by kernel_rfl) (.bool (txt x.kind)) (by go_simp) ?_
          simp only [Act.put, List.setIfInBounds_toArray, List.set_cons_zero, List.set_cons_succ]
          rcases Bool.eq_false_or_eq_true (!txt x.kind) with h9_1 | h9_1
          · skip
            refine WL.val (by kernel_rfl) (.bool true) (by go_simp) ?_
            simp only [Act.put, List.setIfInBounds_toArray, List.set_cons_zero, List.set_cons_succ]
            refine WL.val (by kernel_rfl) (.bool true) (by go_simp) ?_
            simp only [Act.put, List.setIfInBounds_toArray, List.set_cons_zero, List.set_cons_succ]
            refine WL.val (by kernel_rfl) (.pointer (some ⟨w.heap.size, 2, none⟩)) (by go_simp) ?_
            simp only [Act.put, List.setIfInBounds_toArray, List.set_cons_zero, List.set_cons_succ]
            refine WL.val (by kernel_rfl) (.string x.text) (by go_simp) ?_
            simp only [Act.put, List.setIfInBounds_toArray, List.set_cons_zero, List.set_cons_succ]
            rcases Bool.eq_false_or_eq_true (!(x.text.toList == [])) with h9_5 | h9_5
            · have h9_5p : ¬ x.text.toList = [] := by simpa using h9_5
              refine WL.val (by kernel_rfl) (.bool true) (by go_simp) ?_
              simp only [Act.put, List.setIfInBounds_toArray, List.set_cons_zero, List.set_cons_succ]
              refine WL.val (by kernel_rfl) (.bool true) (by go_simp) ?_
              simp only [Act.put, List.setIfInBounds_toArray, List.set_cons_zero, List.set_cons_succ]
              refine WL.val (by kernel_rfl) (.bool true) (by go_simp) ?_
              simp only [Act.put, List.setIfInBounds_toArray, List.set_cons_zero, List.set_cons_succ]
              refine WL.skip (by kernel_rfl) ?_
              simp only [Act.put, List.setIfInBounds_toArray, List.set_cons_zero, List.set_cons_succ]
              refine WL.skip (by kernel_rfl) ?_
              simp only [Act.put, List.setIfInBounds_toArray, List.set_cons_zero, List.set_cons_succ]
              refine WL.skip (by kernel_rfl) ?_
              simp only [Act.put, List.setIfInBounds_toArray, List.set_cons_zero, List.set_cons_succ]
              refine WL.skip (by kernel_rfl) ?_
              simp only [Act.put, List.setIfInBounds_toArray, List.set_cons_zero, List.set_cons_succ]
              refine WL.skip (by kernel_rfl) ?_
              simp only [Act.put, List.setIfInBounds_toArray, List.set_cons_zero, List.set_cons_succ]
              refine WL.skip (by kernel_rfl) ?_
              simp only [Act.put, List.setIfInBounds_toArray, List.set_cons_zero, List.set_cons_succ]
              refine WL.skip (by kernel_rfl) ?_
              simp only [Act.put, List.setIfInBounds_toArray, List.set_cons_zero, List.set_cons_succ]
              refine WL.skip (by kernel_rfl) ?_
              simp only [Act.put, List.setIfInBounds_toArray, List.set_cons_zero, List.set_cons_succ]
              refine WL.val (by kernel_rfl) (.bool true) (by go_simp) ?_
              simp only [Act.put, List.setIfInBounds_toArray, List.set_cons_zero, List.set_cons_succ]
              refine WL.val (by kernel_rfl) (.bool true) (by go_simp) ?_
              simp only [Act.put, List.setIfInBounds_toArray, List.set_cons_zero, List.set_cons_succ]
              refine WL.skip (by kernel_rfl) ?_
              simp only [Act.put, List.setIfInBounds_toArray, List.set_cons_zero, List.set_cons_succ]
              refine WL.skip (by kernel_rfl) ?_
              simp only [Act.put, List.setIfInBounds_toArray, List.set_cons_zero, List.set_cons_succ]
              refine WL.skip (by kernel_rfl) ?_
              simp only [Act.put, List.setIfInBounds_toArray, List.set_cons_zero, List.set_cons_succ]
              refine WL.skip (by kernel_rfl) ?_
              simp only [Act.put, List.setIfInBounds_toArray, List.set_cons_zero, List.set_cons_succ]
              refine WL.skip (by kernel_rfl) ?_
              simp only [Act.put, List.setIfInBounds_toArray, List.set_cons_zero, List.set_cons_succ]
              refine WL.skip (by kernel_rfl) ?_
              simp only [Act.put, List.setIfInBounds_toArray, List.set_cons_zero, List.set_cons_succ]
              refine WL.val (by kernel_rfl) (.bool true) (by go_simp) ?_
              simp only [Act.put, List.setIfInBounds_toArray, List.set_cons_zero, List.set_cons_succ]
              refine WL.val (by kernel_rfl) (.bool true) (by go_simp) ?_
              simp only [Act.put, List.setIfInBounds_toArray, List.set_cons_zero, List.set_cons_succ]
              refine WL.nil ?_
              refine hK13 _ _ ?_
              refine wp_cond_true rfl ?_
              refine wp_seq_k fun K14 hK14 => ?_
              refine wp_region_list (WL.out ?_)
              refine WL.val (by kernel_rfl) (.int .i64 41) (by go_simp) ?_
              simp only [Act.put, List.setIfInBounds_toArray, List.set_cons_zero, List.set_cons_succ]
              refine WL.nil ?_
              refine hK14 _ _ ?_
              refine wp_ret ?_
              go_ret
              exact ⟨by rw [HR.out, if_neg (show ¬ x.kind < 1 by omega), if_neg (show ¬ 9 < x.kind by omega), if_neg (show ¬ 65536 < x.key.size by omega), if_neg (show ¬ 65536 < x.text.size by omega), if_pos (show fbad x = true by unfold fbad; simp only [h9_1, h9_5]; simp)]; rfl, HW5.out⟩
            · have h9_5p : x.text.toList = [] := by simpa using h9_5
              refine WL.val (by kernel_rfl) (.bool false) (by go_simp) ?_
              simp only [Act.put, List.setIfInBounds_toArray, List.set_cons_zero, List.set_cons_succ]
              refine WL.val (by kernel_rfl) (.bool false) (by go_simp) ?_
              simp only [Act.put, List.setIfInBounds_toArray, List.set_cons_zero, List.set_cons_succ]
              refine WL.val (by kernel_rfl) (.bool false) (by go_simp) ?_
              simp only [Act.put, List.setIfInBounds_toArray, List.set_cons_zero, List.set_cons_succ]
              refine WL.val (by kernel_rfl) (.pointer (some ⟨w.heap.size, 0, none⟩)) (by go_simp) ?_
              simp only [Act.put, List.setIfInBounds_toArray, List.set_cons_zero, List.set_cons_succ]
              refine WL.val (by kernel_rfl) (.int .i64 x.kind) (by go_simp) ?_
              simp only [Act.put, List.setIfInBounds_toArray, List.set_cons_zero, List.set_cons_succ]
              rcases Bool.eq_false_or_eq_true (!(x.kind == 6)) with h9_10 | h9_10
              · have h9_10p : ¬ x.kind = 6 := by simpa using h9_10
                refine WL.val (by kernel_rfl) (.bool true) (by go_simp) ?_
                simp only [Act.put, List.setIfInBounds_toArray, List.set_cons_zero, List.set_cons_succ]
                clear h9_10p
                refine WL.val (by kernel_rfl) (.bool true) (by go_simp) ?_
                simp only [Act.put, List.setIfInBounds_toArray, List.set_cons_zero, List.set_cons_succ]
                refine WL.val (by kernel_rfl) (.pointer (some ⟨w.heap.size, 3, none⟩)) (by go_simp) ?_
                simp only [Act.put, List.setIfInBounds_toArray, List.set_cons_zero, List.set_cons_succ]
                refine WL.val (by kernel_rfl) (.int .i64 x.n) (by go_simp) ?_
                simp only [Act.put, List.setIfInBounds_toArray, List.set_cons_zero, List.set_cons_succ]
                rcases Bool.eq_false_or_eq_true (!(x.n == 0)) with h9_14 | h9_14
                · have h9_14p : ¬ x.n = 0 := by simpa using h9_14
                  refine WL.val (by kernel_rfl) (.bool true) (by go_simp) ?_
                  simp only [Act.put, List.setIfInBounds_toArray, List.set_cons_zero, List.set_cons_succ]
                  refine WL.val (by kernel_rfl) (.bool true) (by go_simp) ?_
                  simp only [Act.put, List.setIfInBounds_toArray, List.set_cons_zero, List.set_cons_succ]
                  refine WL.val (by kernel_rfl) (.bool true) (by go_simp) ?_
                  simp only [Act.put, List.setIfInBounds_toArray, List.set_cons_zero, List.set_cons_succ]
                  refine WL.val (by kernel_rfl) (.bool true) (by go_simp) ?_
                  simp only [Act.put, List.setIfInBounds_toArray, List.set_cons_zero, List.set_cons_succ]
                  refine WL.skip (by kernel_rfl) ?_
                  simp only [Act.put, List.setIfInBounds_toArray, List.set_cons_zero, List.set_cons_succ]
                  refine WL.skip (by kernel_rfl) ?_
                  simp only [Act.put, List.setIfInBounds_toArray, List.set_cons_zero, List.set_cons_succ]
                  refine WL.skip (by kernel_rfl) ?_
                  simp only [Act.put, List.setIfInBounds_toArray, List.set_cons_zero, List.set_cons_succ]
                  refine WL.skip (by kernel_rfl) ?_
                  simp only [Act.put, List.setIfInBounds_toArray, List.set_cons_zero, List.set_cons_succ]
                  refine WL.skip (by kernel_rfl) ?_
                  simp only [Act.put, List.setIfInBounds_toArray, List.set_cons_zero, List.set_cons_succ]
                  refine WL.skip (by kernel_rfl) ?_
                  simp only [Act.put, List.setIfInBounds_toArray, List.set_cons_zero, List.set_cons_succ]
                  refine WL.val (by kernel_rfl) (.bool true) (by go_simp) ?_
                  simp only [Act.put, List.setIfInBounds_toArray, List.set_cons_zero, List.set_cons_succ]
                  refine WL.val (by kernel_rfl) (.bool true) (by go_simp) ?_
                  simp only [Act.put, List.setIfInBounds_toArray, List.set_cons_zero, List.set_cons_succ]
                  refine WL.nil ?_
                  refine hK13 _ _ ?_
                  refine wp_cond_true rfl ?_
                  refine wp_seq_k fun K15 hK15 => ?_
                  refine wp_region_list (WL.out ?_)
                  refine WL.val (by kernel_rfl) (.int .i64 41) (by go_simp) ?_
                  simp only [Act.put, List.setIfInBounds_toArray, List.set_cons_zero, List.set_cons_succ]
                  refine WL.nil ?_
                  refine hK15 _ _ ?_
                  refine wp_ret ?_
                  go_ret
                  exact ⟨by rw [HR.out, if_neg (show ¬ x.kind < 1 by omega), if_neg (show ¬ 9 < x.kind by omega), if_neg (show ¬ 65536 < x.key.size by omega), if_neg (show ¬ 65536 < x.text.size by omega), if_pos (show fbad x = true by unfold fbad; simp only [h9_1, h9_5, h9_10, h9_14]; simp)]; rfl, HW5.out⟩
                · have h9_14p : x.n = 0 := by simpa using h9_14
                  refine WL.val (by kernel_rfl) (.bool false) (by go_simp) ?_
                  simp only [Act.put, List.setIfInBounds_toArray, List.set_cons_zero, List.set_cons_succ]
                  refine WL.val (by kernel_rfl) (.bool false) (by go_simp) ?_
                  simp only [Act.put, List.setIfInBounds_toArray, List.set_cons_zero, List.set_cons_succ]
                  refine WL.val (by kernel_rfl) (.bool false) (by go_simp) ?_
                  simp only [Act.put, List.setIfInBounds_toArray, List.set_cons_zero, List.set_cons_succ]
                  refine WL.val (by kernel_rfl) (.bool false) (by go_simp) ?_
                  simp only [Act.put, List.setIfInBounds_toArray, List.set_cons_zero, List.set_cons_succ]
                  refine WL.val (by kernel_rfl) (.bool (hat x.kind)) (by go_simp) ?_
                  simp only [Act.put, List.setIfInBounds_toArray, List.set_cons_zero, List.set_cons_succ]
                  rcases Bool.eq_false_or_eq_true (!hat x.kind) with h9_19 | h9_19
                  · skip
                    refine WL.val (by kernel_rfl) (.bool true) (by go_simp) ?_
                    simp only [Act.put, List.setIfInBounds_toArray, List.set_cons_zero, List.set_cons_succ]
                    refine WL.val (by kernel_rfl) (.bool true) (by go_simp) ?_
                    simp only [Act.put, List.setIfInBounds_toArray, List.set_cons_zero, List.set_cons_succ]
                    refine WL.val (by kernel_rfl) (.bool (nd x.node z32 && x.op == 0)) (by go_simp) ?_
                    simp only [Act.put, List.setIfInBounds_toArray, List.set_cons_zero, List.set_cons_succ]
                    rcases Bool.eq_false_or_eq_true (!(nd x.node z32 && x.op == 0)) with h9_22 | h9_22
                    · skip
                      refine WL.val (by kernel_rfl) (.bool true) (by go_simp) ?_
                      simp only [Act.put, List.setIfInBounds_toArray, List.set_cons_zero, List.set_cons_succ]
                      refine WL.val (by kernel_rfl) (.bool true) (by go_simp) ?_
                      simp only [Act.put, List.setIfInBounds_toArray, List.set_cons_zero, List.set_cons_succ]
                      refine WL.val (by kernel_rfl) (.bool true) (by go_simp) ?_
                      simp only [Act.put, List.setIfInBounds_toArray, List.set_cons_zero, List.set_cons_succ]
                      refine WL.val (by kernel_rfl) (.bool true) (by go_simp) ?_
                      simp only [Act.put, List.setIfInBounds_toArray, List.set_cons_zero, List.set_cons_succ]
                      refine WL.nil ?_
                      refine hK13 _ _ ?_
                      refine wp_cond_true rfl ?_
                      refine wp_seq_k fun K16 hK16 => ?_
                      refine wp_region_list (WL.out ?_)
                      refine WL.val (by kernel_rfl) (.int .i64 41) (by go_simp) ?_
                      simp only [Act.put, List.setIfInBounds_toArray, List.set_cons_zero, List.set_cons_succ]
                      refine WL.nil ?_
                      refine hK16 _ _ ?_
                      refine wp_ret ?_
                      go_ret
                      exact ⟨by rw [HR.out, if_neg (show ¬ x.kind < 1 by omega), if_neg (show ¬ 9 < x.kind by omega), if_neg (show ¬ 65536 < x.key.size by omega), if_neg (show ¬ 65536 < x.text.size by omega), if_pos (show fbad x = true by unfold fbad; simp only [h9_1, h9_5, h9_10, h9_14, h9_19, h9_22]; simp)]; rfl, HW5.out⟩
                    · skip
                      refine WL.val (by kernel_rfl) (.bool false) (by go_simp) ?_
                      simp only [Act.put, List.setIfInBounds_toArray, List.set_cons_zero, List.set_cons_succ]
                      refine WL.val (by kernel_rfl) (.bool false) (by go_simp) ?_
                      simp only [Act.put, List.setIfInBounds_toArray, List.set_cons_zero, List.set_cons_succ]
                      refine WL.val (by kernel_rfl) (.bool false) (by go_simp) ?_
                      simp only [Act.put, List.setIfInBounds_toArray, List.set_cons_zero, List.set_cons_succ]
                      refine WL.val (by kernel_rfl) (.bool false) (by go_simp) ?_
                      simp only [Act.put, List.setIfInBounds_toArray, List.set_cons_zero, List.set_cons_succ]
                      refine WL.nil ?_
                      refine hK13 _ _ ?_
                      refine wp_cond_false rfl ?_
                      refine wp_skip ?_
                      refine hK6 _ _ ?_
                      refine wp_seq_k fun K17 hK17 => ?_
                      refine wp_seq_k fun K18 hK18 => ?_
                      refine wp_region_list (WL.out ?_)
                      have hhat : hat x.kind = false := by simpa using h9_19
                      rw [hhat]
                      refine WL.val (by kernel_rfl) (.bool false) (by go_simp) ?_
                      simp only [Act.put, List.setIfInBounds_toArray, List.set_cons_zero, List.set_cons_succ]
                      refine WL.nil ?_
                      refine hK18 _ _ ?_
                      refine wp_cond_false rfl ?_
                      refine wp_skip ?_
                      refine hK17 _ _ ?_
                      refine wp_seq_k fun K19 hK19 => ?_
                      refine wp_region_list (WL.out ?_)
                      refine WL.val (by kernel_rfl) (.int .i64 0) (by go_simp) ?_
                      simp only [Act.put, List.setIfInBounds_toArray, List.set_cons_zero, List.set_cons_succ]
                      refine WL.nil ?_
                      refine hK19 _ _ ?_
                      refine wp_ret ?_
                      go_ret
                      exact ⟨by rw [HR.out, if_neg (show ¬ x.kind < 1 by omega), if_neg (show ¬ 9 < x.kind by omega), if_neg (show ¬ 65536 < x.key.size by omega), if_neg (show ¬ 65536 < x.text.size by omega), if_neg (show ¬ fbad x = true by unfold fbad; simp only [h9_1, h9_5, h9_10, h9_14, h9_19, h9_22]; simp), if_neg (show ¬ hat x.kind = true by rw [hhat]; decide)]; rfl, HW5.out⟩
                  · skip
                    refine WL.val (by kernel_rfl) (.bool false) (by go_simp) ?_
                    simp only [Act.put, List.setIfInBounds_toArray, List.set_cons_zero, List.set_cons_succ]
                    refine WL.val (by kernel_rfl) (.bool false) (by go_simp) ?_
                    simp only [Act.put, List.setIfInBounds_toArray, List.set_cons_zero, List.set_cons_succ]
                    refine WL.skip (by kernel_rfl) ?_
                    simp only [Act.put, List.setIfInBounds_toArray, List.set_cons_zero, List.set_cons_succ]
                    refine WL.skip (by kernel_rfl) ?_
                    simp only [Act.put, List.setIfInBounds_toArray, List.set_cons_zero, List.set_cons_succ]
                    refine WL.val (by kernel_rfl) (.bool false) (by go_simp) ?_
                    simp only [Act.put, List.setIfInBounds_toArray, List.set_cons_zero, List.set_cons_succ]
                    refine WL.val (by kernel_rfl) (.bool false) (by go_simp) ?_
                    simp only [Act.put, List.setIfInBounds_toArray, List.set_cons_zero, List.set_cons_succ]
                    refine WL.val (by kernel_rfl) (.bool false) (by go_simp) ?_
                    simp only [Act.put, List.setIfInBounds_toArray, List.set_cons_zero, List.set_cons_succ]
                    refine WL.nil ?_
                    refine hK13 _ _ ?_
                    refine wp_cond_false rfl ?_
                    refine wp_skip ?_
                    refine hK6 _ _ ?_
                    refine wp_seq_k fun K20 hK20 => ?_
                    refine wp_seq_k fun K21 hK21 => ?_
                    refine wp_region_list (WL.out ?_)
                    have hhat : hat x.kind = true := by simpa using h9_19
                    rw [hhat]
                    refine WL.val (by kernel_rfl) (.bool true) (by go_simp) ?_
                    simp only [Act.put, List.setIfInBounds_toArray, List.set_cons_zero, List.set_cons_succ]
                    refine WL.nil ?_
                    refine hK21 _ _ ?_
                    refine wp_cond_true rfl ?_
                    refine wp_seq_k fun K22 hK22 => ?_
                    refine wp_region_list (WL.out ?_)
                    refine WL.val (by kernel_rfl) (.slice va l.length vc) (by go_simp) ?_
                    simp only [Act.put, List.setIfInBounds_toArray, List.set_cons_zero, List.set_cons_succ]
                    refine WL.val (by kernel_rfl) (.int .i64 (i : Int)) (by go_simp) ?_
                    simp only [Act.put, List.setIfInBounds_toArray, List.set_cons_zero, List.set_cons_succ]
                    refine WL.callF (by kernel_rfl) 85 _ _ rfl Try.in85 #[.slice va l.length vc, .int .i64 (i : Int)] (by simp [Act.eval]) ?_
                    refine (rmay_any _ l i w5 (HL.out.below HW5.out) Hi.out Hlb.out (by rw [← hx0.out]; exact Hok.out)).mono ?_
                    rintro e w6 ⟨rfl, h6⟩
                    rw [← hx0.out]
                    refine ⟨_, rfl, ?_⟩
                    have HW6 := Keep.mk (HW5.out.trans (h6.mono HW5.out.size))
                    clear h6
                    simp only [Act.put, List.setIfInBounds_toArray, List.set_cons_zero, List.set_cons_succ]
                    refine WL.val (by kernel_rfl) (.bool (mayAt (l.take i) x)) (by go_simp) ?_
                    simp only [Act.put, List.setIfInBounds_toArray, List.set_cons_zero, List.set_cons_succ]
                    refine WL.nil ?_
                    refine hK22 _ _ ?_
                    refine wp_seq_k fun K23 hK23 => ?_
                    refine wp_region_list (WL.out ?_)
                    refine WL.val (by kernel_rfl) (.bool (mayAt (l.take i) x)) (by go_simp) ?_
                    simp only [Act.put, List.setIfInBounds_toArray, List.set_cons_zero, List.set_cons_succ]
                    rcases Bool.eq_false_or_eq_true (!mayAt (l.take i) x) with h13_1 | h13_1
                    · skip
                      refine WL.val (by kernel_rfl) (.bool true) (by go_simp) ?_
                      simp only [Act.put, List.setIfInBounds_toArray, List.set_cons_zero, List.set_cons_succ]
                      refine WL.nil ?_
                      refine hK23 _ _ ?_
                      refine wp_cond_true rfl ?_
                      refine wp_seq_k fun K24 hK24 => ?_
                      refine wp_region_list (WL.out ?_)
                      refine WL.val (by kernel_rfl) (.int .i64 42) (by go_simp) ?_
                      simp only [Act.put, List.setIfInBounds_toArray, List.set_cons_zero, List.set_cons_succ]
                      refine WL.nil ?_
                      refine hK24 _ _ ?_
                      refine wp_ret ?_
                      go_ret
                      exact ⟨by rw [HR.out, if_neg (show ¬ x.kind < 1 by omega), if_neg (show ¬ 9 < x.kind by omega), if_neg (show ¬ 65536 < x.key.size by omega), if_neg (show ¬ 65536 < x.text.size by omega), if_neg (show ¬ fbad x = true by unfold fbad; simp only [h9_1, h9_5, h9_10, h9_14, h9_19]; simp), if_pos (show hat x.kind = true by rw [hhat]), if_neg (show ¬ mayAt (l.take i) x = true by simpa using h13_1)]; rfl, HW6.out⟩
                    · skip
                      refine WL.val (by kernel_rfl) (.bool false) (by go_simp) ?_
                      simp only [Act.put, List.setIfInBounds_toArray, List.set_cons_zero, List.set_cons_succ]
                      refine WL.nil ?_
                      refine hK23 _ _ ?_
                      refine wp_cond_false rfl ?_
                      refine wp_skip ?_
                      refine hK20 _ _ ?_
                      refine wp_seq_k fun K25 hK25 => ?_
                      refine wp_region_list (WL.out ?_)
                      refine WL.val (by kernel_rfl) (.int .i64 0) (by go_simp) ?_
                      simp only [Act.put, List.setIfInBounds_toArray, List.set_cons_zero, List.set_cons_succ]
                      refine WL.nil ?_
                      refine hK25 _ _ ?_
                      refine wp_ret ?_
                      go_ret
                      exact ⟨by rw [HR.out, if_neg (show ¬ x.kind < 1 by omega), if_neg (show ¬ 9 < x.kind by omega), if_neg (show ¬ 65536 < x.key.size by omega), if_neg (show ¬ 65536 < x.text.size by omega), if_neg (show ¬ fbad x = true by unfold fbad; simp only [h9_1, h9_5, h9_10, h9_14, h9_19]; simp), if_pos (show hat x.kind = true by rw [hhat]), if_pos (show mayAt (l.take i) x = true by simpa using h13_1)]; rfl, HW6.out⟩
              · have h9_10p : x.kind = 6 := by simpa using h9_10
                refine WL.val (by kernel_rfl) (.bool false) (by go_simp) ?_
                simp only [Act.put, List.setIfInBounds_toArray, List.set_cons_zero, List.set_cons_succ]
                clear h9_10p
                refine WL.val (by kernel_rfl) (.bool false) (by go_simp) ?_
                simp only [Act.put, List.setIfInBounds_toArray, List.set_cons_zero, List.set_cons_succ]
                refine WL.skip (by kernel_rfl) ?_
                simp only [Act.put, List.setIfInBounds_toArray, List.set_cons_zero, List.set_cons_succ]
                refine WL.skip (by kernel_rfl) ?_
                simp only [Act.put, List.setIfInBounds_toArray, List.set_cons_zero, List.set_cons_succ]
                refine WL.skip (by kernel_rfl) ?_
                simp only [Act.put, List.setIfInBounds_toArray, List.set_cons_zero, List.set_cons_succ]
                refine WL.val (by kernel_rfl) (.bool false) (by go_simp) ?_
                simp only [Act.put, List.setIfInBounds_toArray, List.set_cons_zero, List.set_cons_succ]
                refine WL.val (by kernel_rfl) (.bool false) (by go_simp) ?_
                simp only [Act.put, List.setIfInBounds_toArray, List.set_cons_zero, List.set_cons_succ]
                refine WL.val (by kernel_rfl) (.bool false) (by go_simp) ?_
                simp only [Act.put, List.setIfInBounds_toArray, List.set_cons_zero, List.set_cons_succ]
                refine WL.val (by kernel_rfl) (.bool (hat x.kind)) (by go_simp) ?_
                simp only [Act.put, List.setIfInBounds_toArray, List.set_cons_zero, List.set_cons_succ]
                rcases Bool.eq_false_or_eq_true (!hat x.kind) with h9_19 | h9_19
                · skip
                  refine WL.val (by kernel_rfl) (.bool true) (by go_simp) ?_
                  simp only [Act.put, List.setIfInBounds_toArray, List.set_cons_zero, List.set_cons_succ]
                  refine WL.val (by kernel_rfl) (.bool true) (by go_simp) ?_
                  simp only [Act.put, List.setIfInBounds_toArray, List.set_cons_zero, List.set_cons_succ]
                  refine WL.val (by kernel_rfl) (.bool (nd x.node z32 && x.op == 0)) (by go_simp) ?_
                  simp only [Act.put, List.setIfInBounds_toArray, List.set_cons_zero, List.set_cons_succ]
                  rcases Bool.eq_false_or_eq_true (!(nd x.node z32 && x.op == 0)) with h9_22 | h9_22
                  · skip
                    refine WL.val (by kernel_rfl) (.bool true) (by go_simp) ?_
                    simp only [Act.put, List.setIfInBounds_toArray, List.set_cons_zero, List.set_cons_succ]
                    refine WL.val (by kernel_rfl) (.bool true) (by go_simp) ?_
                    simp only [Act.put, List.setIfInBounds_toArray, List.set_cons_zero, List.set_cons_succ]
                    refine WL.val (by kernel_rfl) (.bool true) (by go_simp) ?_
                    simp only [Act.put, List.setIfInBounds_toArray, List.set_cons_zero, List.set_cons_succ]
                    refine WL.val (by kernel_rfl) (.bool true) (by go_simp) ?_
                    simp only [Act.put, List.setIfInBounds_toArray, List.set_cons_zero, List.set_cons_succ]
                    refine WL.nil ?_
                    refine hK13 _ _ ?_
                    refine wp_cond_true rfl ?_
                    refine wp_seq_k fun K26 hK26 => ?_
                    refine wp_region_list (WL.out ?_)
                    refine WL.val (by kernel_rfl) (.int .i64 41) (by go_simp) ?_
                    simp only [Act.put, List.setIfInBounds_toArray, List.set_cons_zero, List.set_cons_succ]
                    refine WL.nil ?_
                    refine hK26 _ _ ?_
                    refine wp_ret ?_
                    go_ret
                    exact ⟨by rw [HR.out, if_neg (show ¬ x.kind < 1 by omega), if_neg (show ¬ 9 < x.kind by omega), if_neg (show ¬ 65536 < x.key.size by omega), if_neg (show ¬ 65536 < x.text.size by omega), if_pos (show fbad x = true by unfold fbad; simp only [h9_1, h9_5, h9_10, h9_19, h9_22]; simp)]; rfl, HW5.out⟩
                  · skip
                    refine WL.val (by kernel_rfl) (.bool false) (by go_simp) ?_
                    simp only [Act.put, List.setIfInBounds_toArray, List.set_cons_zero, List.set_cons_succ]
                    refine WL.val (by kernel_rfl) (.bool false) (by go_simp) ?_
                    simp only [Act.put, List.setIfInBounds_toArray, List.set_cons_zero, List.set_cons_succ]
                    refine WL.val (by kernel_rfl) (.bool false) (by go_simp) ?_
                    simp only [Act.put, List.setIfInBounds_toArray, List.set_cons_zero, List.set_cons_succ]
                    refine WL.val (by kernel_rfl) (.bool false) (by go_simp) ?_
                    simp only [Act.put, List.setIfInBounds_toArray, List.set_cons_zero, List.set_cons_succ]
                    refine WL.nil ?_
                    refine hK13 _ _ ?_
                    refine wp_cond_false rfl ?_
                    refine wp_skip ?_
                    refine hK6 _ _ ?_
                    refine wp_seq_k fun K27 hK27 => ?_
                    refine wp_seq_k fun K28 hK28 => ?_
                    refine wp_region_list (WL.out ?_)
                    have hhat : hat x.kind = false := by simpa using h9_19
                    rw [hhat]
                    refine WL.val (by kernel_rfl) (.bool false) (by go_simp) ?_
                    simp only [Act.put, List.setIfInBounds_toArray, List.set_cons_zero, List.set_cons_succ]
                    refine WL.nil ?_
                    refine hK28 _ _ ?_
                    refine wp_cond_false rfl ?_
                    refine wp_skip ?_
                    refine hK27 _ _ ?_
                    refine wp_seq_k fun K29 hK29 => ?_
                    refine wp_region_list (WL.out ?_)
                    refine WL.val (by kernel_rfl) (.int .i64 0) (by go_simp) ?_
                    simp only [Act.put, List.setIfInBounds_toArray, List.set_cons_zero, List.set_cons_succ]
                    refine WL.nil ?_
                    refine hK29 _ _ ?_
                    refine wp_ret ?_
                    go_ret
                    exact ⟨by rw [HR.out, if_neg (show ¬ x.kind < 1 by omega), if_neg (show ¬ 9 < x.kind by omega), if_neg (show ¬ 65536 < x.key.size by omega), if_neg (show ¬ 65536 < x.text.size by omega), if_neg (show ¬ fbad x = true by unfold fbad; simp only [h9_1, h9_5, h9_10, h9_19, h9_22]; simp), if_neg (show ¬ hat x.kind = true by rw [hhat]; decide)]; rfl, HW5.out⟩
                · skip
                  refine WL.val (by kernel_rfl) (.bool false) (by go_simp) ?_
                  simp only [Act.put, List.setIfInBounds_toArray, List.set_cons_zero, List.set_cons_succ]
                  refine WL.val (by kernel_rfl) (.bool false) (by go_simp) ?_
                  simp only [Act.put, List.setIfInBounds_toArray, List.set_cons_zero, List.set_cons_succ]
                  refine WL.skip (by kernel_rfl) ?_
                  simp only [Act.put, List.setIfInBounds_toArray, List.set_cons_zero, List.set_cons_succ]
                  refine WL.skip (by kernel_rfl) ?_
                  simp only [Act.put, List.setIfInBounds_toArray, List.set_cons_zero, List.set_cons_succ]
                  refine WL.val (by kernel_rfl) (.bool false) (by go_simp) ?_
                  simp only [Act.put, List.setIfInBounds_toArray, List.set_cons_zero, List.set_cons_succ]
                  refine WL.val (by kernel_rfl) (.bool false) (by go_simp) ?_
                  simp only [Act.put, List.setIfInBounds_toArray, List.set_cons_zero, List.set_cons_succ]
                  refine WL.val (by kernel_rfl) (.bool false) (by go_simp) ?_
                  simp only [Act.put, List.setIfInBounds_toArray, List.set_cons_zero, List.set_cons_succ]
                  refine WL.nil ?_
                  refine hK13 _ _ ?_
                  refine wp_cond_false rfl ?_
                  refine wp_skip ?_
                  refine hK6 _ _ ?_
                  refine wp_seq_k fun K30 hK30 => ?_
                  refine wp_seq_k fun K31 hK31 => ?_
                  refine wp_region_list (WL.out ?_)
                  have hhat : hat x.kind = true := by simpa using h9_19
                  rw [hhat]
                  refine WL.val (by kernel_rfl) (.bool true) (by go_simp) ?_
                  simp only [Act.put, List.setIfInBounds_toArray, List.set_cons_zero, List.set_cons_succ]
                  refine WL.nil ?_
                  refine hK31 _ _ ?_
                  refine wp_cond_true rfl ?_
                  refine wp_seq_k fun K32 hK32 => ?_
                  refine wp_region_list (WL.out ?_)
                  refine WL.val (by kernel_rfl) (.slice va l.length vc) (by go_simp) ?_
                  simp only [Act.put, List.setIfInBounds_toArray, List.set_cons_zero, List.set_cons_succ]
                  refine WL.val (by kernel_rfl) (.int .i64 (i : Int)) (by go_simp) ?_
                  simp only [Act.put, List.setIfInBounds_toArray, List.set_cons_zero, List.set_cons_succ]
                  refine WL.callF (by kernel_rfl) 85 _ _ rfl Try.in85 #[.slice va l.length vc, .int .i64 (i : Int)] (by simp [Act.eval]) ?_
                  refine (rmay_any _ l i w5 (HL.out.below HW5.out) Hi.out Hlb.out (by rw [← hx0.out]; exact Hok.out)).mono ?_
                  rintro e w6 ⟨rfl, h6⟩
                  rw [← hx0.out]
                  refine ⟨_, rfl, ?_⟩
                  have HW6 := Keep.mk (HW5.out.trans (h6.mono HW5.out.size))
                  clear h6
                  simp only [Act.put, List.setIfInBounds_toArray, List.set_cons_zero, List.set_cons_succ]
                  refine WL.val (by kernel_rfl) (.bool (mayAt (l.take i) x)) (by go_simp) ?_
                  simp only [Act.put, List.setIfInBounds_toArray, List.set_cons_zero, List.set_cons_succ]
                  refine WL.nil ?_
                  refine hK32 _ _ ?_
                  refine wp_seq_k fun K33 hK33 => ?_
                  refine wp_region_list (WL.out ?_)
                  refine WL.val (by kernel_rfl) (.bool (mayAt (l.take i) x)) (by go_simp) ?_
                  simp only [Act.put, List.setIfInBounds_toArray, List.set_cons_zero, List.set_cons_succ]
                  rcases Bool.eq_false_or_eq_true (!mayAt (l.take i) x) with h13_1 | h13_1
                  · skip
                    refine WL.val (by kernel_rfl) (.bool true) (by go_simp) ?_
                    simp only [Act.put, List.setIfInBounds_toArray, List.set_cons_zero, List.set_cons_succ]
                    refine WL.nil ?_
                    refine hK33 _ _ ?_
                    refine wp_cond_true rfl ?_
                    refine wp_seq_k fun K34 hK34 => ?_
                    refine wp_region_list (WL.out ?_)
                    refine WL.val (by kernel_rfl) (.int .i64 42) (by go_simp) ?_
                    simp only [Act.put, List.setIfInBounds_toArray, List.set_cons_zero, List.set_cons_succ]
                    refine WL.nil ?_
                    refine hK34 _ _ ?_
                    refine wp_ret ?_
                    go_ret
                    exact ⟨by rw [HR.out, if_neg (show ¬ x.kind < 1 by omega), if_neg (show ¬ 9 < x.kind by omega), if_neg (show ¬ 65536 < x.key.size by omega), if_neg (show ¬ 65536 < x.text.size by omega), if_neg (show ¬ fbad x = true by unfold fbad; simp only [h9_1, h9_5, h9_10, h9_19]; simp), if_pos (show hat x.kind = true by rw [hhat]), if_neg (show ¬ mayAt (l.take i) x = true by simpa using h13_1)]; rfl, HW6.out⟩
                  · skip
                    refine WL.val (by kernel_rfl) (.bool false) (by go_simp) ?_
                    simp only [Act.put, List.setIfInBounds_toArray, List.set_cons_zero, List.set_cons_succ]
                    refine WL.nil ?_
                    refine hK33 _ _ ?_
                    refine wp_cond_false rfl ?_
                    refine wp_skip ?_
                    refine hK30 _ _ ?_
                    refine wp_seq_k fun K35 hK35 => ?_
                    refine wp_region_list (WL.out ?_)
                    refine WL.val (by kernel_rfl) (.int .i64 0) (by go_simp) ?_
                    simp only [Act.put, List.setIfInBounds_toArray, List.set_cons_zero, List.set_cons_succ]
                    refine WL.nil ?_
                    refine hK35 _ _ ?_
                    refine wp_ret ?_
                    go_ret
                    exact ⟨by rw [HR.out, if_neg (show ¬ x.kind < 1 by omega), if_neg (show ¬ 9 < x.kind by omega), if_neg (show ¬ 65536 < x.key.size by omega), if_neg (show ¬ 65536 < x.text.size by omega), if_neg (show ¬ fbad x = true by unfold fbad; simp only [h9_1, h9_5, h9_10, h9_19]; simp), if_pos (show hat x.kind = true by rw [hhat]), if_pos (show mayAt (l.take i) x = true by simpa using h13_1)]; rfl, HW6.out⟩
          · skip
            refine WL.val (by kernel_rfl) (.bool false) (by go_simp) ?_
            simp only [Act.put, List.setIfInBounds_toArray, List.set_cons_zero, List.set_cons_succ]
            refine WL.val (by kernel_rfl) (.bool false) (by go_simp) ?_
            simp only [Act.put, List.setIfInBounds_toArray, List.set_cons_zero, List.set_cons_succ]
            refine WL.skip (by kernel_rfl) ?_
            simp only [Act.put, List.setIfInBounds_toArray, List.set_cons_zero, List.set_cons_succ]
            refine WL.skip (by kernel_rfl) ?_
            simp only [Act.put, List.setIfInBounds_toArray, List.set_cons_zero, List.set_cons_succ]
            refine WL.skip (by kernel_rfl) ?_
            simp only [Act.put, List.setIfInBounds_toArray, List.set_cons_zero, List.set_cons_succ]
            refine WL.val (by kernel_rfl) (.bool false) (by go_simp) ?_
            simp only [Act.put, List.setIfInBounds_toArray, List.set_cons_zero, List.set_cons_succ]
            refine WL.val (by kernel_rfl) (.bool false) (by go_simp) ?_
            simp only [Act.put, List.setIfInBounds_toArray, List.set_cons_zero, List.set_cons_succ]
            refine WL.val (by kernel_rfl) (.pointer (some ⟨w.heap.size, 0, none⟩)) (by go_simp) ?_
            simp only [Act.put, List.setIfInBounds_toArray, List.set_cons_zero, List.set_cons_succ]
            refine WL.val (by kernel_rfl) (.int .i64 x.kind) (by go_simp) ?_
            simp only [Act.put, List.setIfInBounds_toArray, List.set_cons_zero, List.set_cons_succ]
            rcases Bool.eq_false_or_eq_true (!(x.kind == 6)) with h9_10 | h9_10
            · have h9_10p : ¬ x.kind = 6 := by simpa using h9_10
              refine WL.val (by kernel_rfl) (.bool true) (by go_simp) ?_
              simp only [Act.put, List.setIfInBounds_toArray, List.set_cons_zero, List.set_cons_succ]
              clear h9_10p
              refine WL.val (by kernel_rfl) (.bool true) (by go_simp) ?_
              simp only [Act.put, List.setIfInBounds_toArray, List.set_cons_zero, List.set_cons_succ]
              refine WL.val (by kernel_rfl) (.pointer (some ⟨w.heap.size, 3, none⟩)) (by go_simp) ?_
              simp only [Act.put, List.setIfInBounds_toArray, List.set_cons_zero, List.set_cons_succ]
              refine WL.val (by kernel_rfl) (.int .i64 x.n) (by go_simp) ?_
              simp only [Act.put, List.setIfInBounds_toArray, List.set_cons_zero, List.set_cons_succ]
              rcases Bool.eq_false_or_eq_true (!(x.n == 0)) with h9_14 | h9_14
              · have h9_14p : ¬ x.n = 0 := by simpa using h9_14
                refine WL.val (by kernel_rfl) (.bool true) (by go_simp) ?_
                simp only [Act.put, List.setIfInBounds_toArray, List.set_cons_zero, List.set_cons_succ]
                refine WL.val (by kernel_rfl) (.bool true) (by go_simp) ?_
                simp only [Act.put, List.setIfInBounds_toArray, List.set_cons_zero, List.set_cons_succ]
                refine WL.val (by kernel_rfl) (.bool true) (by go_simp) ?_
                simp only [Act.put, List.setIfInBounds_toArray, List.set_cons_zero, List.set_cons_succ]
                refine WL.val (by kernel_rfl) (.bool true) (by go_simp) ?_
                simp only [Act.put, List.setIfInBounds_toArray, List.set_cons_zero, List.set_cons_succ]
                refine WL.skip (by kernel_rfl) ?_
                simp only [Act.put, List.setIfInBounds_toArray, List.set_cons_zero, List.set_cons_succ]
                refine WL.skip (by kernel_rfl) ?_
                simp only [Act.put, List.setIfInBounds_toArray, List.set_cons_zero, List.set_cons_succ]
                refine WL.skip (by kernel_rfl) ?_
                simp only [Act.put, List.setIfInBounds_toArray, List.set_cons_zero, List.set_cons_succ]
                refine WL.skip (by kernel_rfl) ?_
                simp only [Act.put, List.setIfInBounds_toArray, List.set_cons_zero, List.set_cons_succ]
                refine WL.skip (by kernel_rfl) ?_
                simp only [Act.put, List.setIfInBounds_toArray, List.set_cons_zero, List.set_cons_succ]
                refine WL.skip (by kernel_rfl) ?_
                simp only [Act.put, List.setIfInBounds_toArray, List.set_cons_zero, List.set_cons_succ]
                refine WL.val (by kernel_rfl) (.bool true) (by go_simp) ?_
                simp only [Act.put, List.setIfInBounds_toArray, List.set_cons_zero, List.set_cons_succ]
                refine WL.val (by kernel_rfl) (.bool true) (by go_simp) ?_
                simp only [Act.put, List.setIfInBounds_toArray, List.set_cons_zero, List.set_cons_succ]
                refine WL.nil ?_
                refine hK13 _ _ ?_
                refine wp_cond_true rfl ?_
                refine wp_seq_k fun K36 hK36 => ?_
                refine wp_region_list (WL.out ?_)
                refine WL.val (by kernel_rfl) (.int .i64 41) (by go_simp) ?_
                simp only [Act.put, List.setIfInBounds_toArray, List.set_cons_zero, List.set_cons_succ]
                refine WL.nil ?_
                refine hK36 _ _ ?_
                refine wp_ret ?_
                go_ret
                exact ⟨by rw [HR.out, if_neg (show ¬ x.kind < 1 by omega), if_neg (show ¬ 9 < x.kind by omega), if_neg (show ¬ 65536 < x.key.size by omega), if_neg (show ¬ 65536 < x.text.size by omega), if_pos (show fbad x = true by unfold fbad; simp only [h9_1, h9_10, h9_14]; simp)]; rfl, HW5.out⟩
              · have h9_14p : x.n = 0 := by simpa using h9_14
                refine WL.val (by kernel_rfl) (.bool false) (by go_simp) ?_
                simp only [Act.put, List.setIfInBounds_toArray, List.set_cons_zero, List.set_cons_succ]
                refine WL.val (by kernel_rfl) (.bool false) (by go_simp) ?_
                simp only [Act.put, List.setIfInBounds_toArray, List.set_cons_zero, List.set_cons_succ]
                refine WL.val (by kernel_rfl) (.bool false) (by go_simp) ?_
                simp only [Act.put, List.setIfInBounds_toArray, List.set_cons_zero, List.set_cons_succ]
                refine WL.val (by kernel_rfl) (.bool false) (by go_simp) ?_
                simp only [Act.put, List.setIfInBounds_toArray, List.set_cons_zero, List.set_cons_succ]
                refine WL.val (by kernel_rfl) (.bool (hat x.kind)) (by go_simp) ?_
                simp only [Act.put, List.setIfInBounds_toArray, List.set_cons_zero, List.set_cons_succ]
                rcases Bool.eq_false_or_eq_true (!hat x.kind) with h9_19 | h9_19
                · skip
                  refine WL.val (by kernel_rfl) (.bool true) (by go_simp) ?_
                  simp only [Act.put, List.setIfInBounds_toArray, List.set_cons_zero, List.set_cons_succ]
                  refine WL.val (by kernel_rfl) (.bool true) (by go_simp) ?_
                  simp only [Act.put, List.setIfInBounds_toArray, List.set_cons_zero, List.set_cons_succ]
                  refine WL.val (by kernel_rfl) (.bool (nd x.node z32 && x.op == 0)) (by go_simp) ?_
                  simp only [Act.put, List.setIfInBounds_toArray, List.set_cons_zero, List.set_cons_succ]
                  rcases Bool.eq_false_or_eq_true (!(nd x.node z32 && x.op == 0)) with h9_22 | h9_22
                  · skip
                    refine WL.val (by kernel_rfl) (.bool true) (by go_simp) ?_
                    simp only [Act.put, List.setIfInBounds_toArray, List.set_cons_zero, List.set_cons_succ]
                    refine WL.val (by kernel_rfl) (.bool true) (by go_simp) ?_
                    simp only [Act.put, List.setIfInBounds_toArray, List.set_cons_zero, List.set_cons_succ]
                    refine WL.val (by kernel_rfl) (.bool true) (by go_simp) ?_
                    simp only [Act.put, List.setIfInBounds_toArray, List.set_cons_zero, List.set_cons_succ]
                    refine WL.val (by kernel_rfl) (.bool true) (by go_simp) ?_
                    simp only [Act.put, List.setIfInBounds_toArray, List.set_cons_zero, List.set_cons_succ]
                    refine WL.nil ?_
                    refine hK13 _ _ ?_
                    refine wp_cond_true rfl ?_
                    refine wp_seq_k fun K37 hK37 => ?_
                    refine wp_region_list (WL.out ?_)
                    refine WL.val (by kernel_rfl) (.int .i64 41) (by go_simp) ?_
                    simp only [Act.put, List.setIfInBounds_toArray, List.set_cons_zero, List.set_cons_succ]
                    refine WL.nil ?_
                    refine hK37 _ _ ?_
                    refine wp_ret ?_
                    go_ret
                    exact ⟨by rw [HR.out, if_neg (show ¬ x.kind < 1 by omega), if_neg (show ¬ 9 < x.kind by omega), if_neg (show ¬ 65536 < x.key.size by omega), if_neg (show ¬ 65536 < x.text.size by omega), if_pos (show fbad x = true by unfold fbad; simp only [h9_1, h9_10, h9_14, h9_19, h9_22]; simp)]; rfl, HW5.out⟩
                  · skip
                    refine WL.val (by kernel_rfl) (.bool false) (by go_simp) ?_
                    simp only [Act.put, List.setIfInBounds_toArray, List.set_cons_zero, List.set_cons_succ]
                    refine WL.val (by kernel_rfl) (.bool false) (by go_simp) ?_
                    simp only [Act.put, List.setIfInBounds_toArray, List.set_cons_zero, List.set_cons_succ]
                    refine WL.val (by kernel_rfl) (.bool false) (by go_simp) ?_
                    simp only [Act.put, List.setIfInBounds_toArray, List.set_cons_zero, List.set_cons_succ]
                    refine WL.val (by kernel_rfl) (.bool false) (by go_simp) ?_
                    simp only [Act.put, List.setIfInBounds_toArray, List.set_cons_zero, List.set_cons_succ]
                    refine WL.nil ?_
                    refine hK13 _ _ ?_
                    refine wp_cond_false rfl ?_
                    refine wp_skip ?_
                    refine hK6 _ _ ?_
                    refine wp_seq_k fun K38 hK38 => ?_
                    refine wp_seq_k fun K39 hK39 => ?_
                    refine wp_region_list (WL.out ?_)
                    have hhat : hat x.kind = false := by simpa using h9_19
                    rw [hhat]
                    refine WL.val (by kernel_rfl) (.bool false) (by go_simp) ?_
                    simp only [Act.put, List.setIfInBounds_toArray, List.set_cons_zero, List.set_cons_succ]
                    refine WL.nil ?_
                    refine hK39 _ _ ?_
                    refine wp_cond_false rfl ?_
                    refine wp_skip ?_
                    refine hK38 _ _ ?_
                    refine wp_seq_k fun K40 hK40 => ?_
                    refine wp_region_list (WL.out ?_)
                    refine WL.val (by kernel_rfl) (.int .i64 0) (by go_simp) ?_
                    simp only [Act.put, List.setIfInBounds_toArray, List.set_cons_zero, List.set_cons_succ]
                    refine WL.nil ?_
                    refine hK40 _ _ ?_
                    refine wp_ret ?_
                    go_ret
                    exact ⟨by rw [HR.out, if_neg (show ¬ x.kind < 1 by omega), if_neg (show ¬ 9 < x.kind by omega), if_neg (show ¬ 65536 < x.key.size by omega), if_neg (show ¬ 65536 < x.text.size by omega), if_neg (show ¬ fbad x = true by unfold fbad; simp only [h9_1, h9_10, h9_14, h9_19, h9_22]; simp), if_neg (show ¬ hat x.kind = true by rw [hhat]; decide)]; rfl, HW5.out⟩
                · skip
                  refine WL.val (by kernel_rfl) (.bool false) (by go_simp) ?_
                  simp only [Act.put, List.setIfInBounds_toArray, List.set_cons_zero, List.set_cons_succ]
                  refine WL.val (by kernel_rfl) (.bool false) (by go_simp) ?_
                  simp only [Act.put, List.setIfInBounds_toArray, List.set_cons_zero, List.set_cons_succ]
                  refine WL.skip (by kernel_rfl) ?_
                  simp only [Act.put, List.setIfInBounds_toArray, List.set_cons_zero, List.set_cons_succ]
                  refine WL.skip (by kernel_rfl) ?_
                  simp only [Act.put, List.setIfInBounds_toArray, List.set_cons_zero, List.set_cons_succ]
                  refine WL.val (by kernel_rfl) (.bool false) (by go_simp) ?_
                  simp only [Act.put, List.setIfInBounds_toArray, List.set_cons_zero, List.set_cons_succ]
                  refine WL.val (by kernel_rfl) (.bool false) (by go_simp) ?_
                  simp only [Act.put, List.setIfInBounds_toArray, List.set_cons_zero, List.set_cons_succ]
                  refine WL.val (by kernel_rfl) (.bool false) (by go_simp) ?_
                  simp only [Act.put, List.setIfInBounds_toArray, List.set_cons_zero, List.set_cons_succ]
                  refine WL.nil ?_
                  refine hK13 _ _ ?_
                  refine wp_cond_false rfl ?_
                  refine wp_skip ?_
                  refine hK6 _ _ ?_
                  refine wp_seq_k fun K41 hK41 => ?_
                  refine wp_seq_k fun K42 hK42 => ?_
                  refine wp_region_list (WL.out ?_)
                  have hhat : hat x.kind = true := by simpa using h9_19
                  rw [hhat]
                  refine WL.val (by kernel_rfl) (.bool true) (by go_simp) ?_
                  simp only [Act.put, List.setIfInBounds_toArray, List.set_cons_zero, List.set_cons_succ]
                  refine WL.nil ?_
                  refine hK42 _ _ ?_
                  refine wp_cond_true rfl ?_
                  refine wp_seq_k fun K43 hK43 => ?_
                  refine wp_region_list (WL.out ?_)
                  refine WL.val (by kernel_rfl) (.slice va l.length vc) (by go_simp) ?_
                  simp only [Act.put, List.setIfInBounds_toArray, List.set_cons_zero, List.set_cons_succ]
                  refine WL.val (by kernel_rfl) (.int .i64 (i : Int)) (by go_simp) ?_
                  simp only [Act.put, List.setIfInBounds_toArray, List.set_cons_zero, List.set_cons_succ]
                  refine WL.callF (by kernel_rfl) 85 _ _ rfl Try.in85 #[.slice va l.length vc, .int .i64 (i : Int)] (by simp [Act.eval]) ?_
                  refine (rmay_any _ l i w5 (HL.out.below HW5.out) Hi.out Hlb.out (by rw [← hx0.out]; exact Hok.out)).mono ?_
                  rintro e w6 ⟨rfl, h6⟩
                  rw [← hx0.out]
                  refine ⟨_, rfl, ?_⟩
                  have HW6 := Keep.mk (HW5.out.trans (h6.mono HW5.out.size))
                  clear h6
                  simp only [Act.put, List.setIfInBounds_toArray, List.set_cons_zero, List.set_cons_succ]
                  refine WL.val (by kernel_rfl) (.bool (mayAt (l.take i) x)) (by go_simp) ?_
                  simp only [Act.put, List.setIfInBounds_toArray, List.set_cons_zero, List.set_cons_succ]
                  refine WL.nil ?_
                  refine hK43 _ _ ?_
                  refine wp_seq_k fun K44 hK44 => ?_
                  refine wp_region_list (WL.out ?_)
                  refine WL.val (by kernel_rfl) (.bool (mayAt (l.take i) x)) (by go_simp) ?_
                  simp only [Act.put, List.setIfInBounds_toArray, List.set_cons_zero, List.set_cons_succ]
                  rcases Bool.eq_false_or_eq_true (!mayAt (l.take i) x) with h13_1 | h13_1
                  · skip
                    refine WL.val (by kernel_rfl) (.bool true) (by go_simp) ?_
                    simp only [Act.put, List.setIfInBounds_toArray, List.set_cons_zero, List.set_cons_succ]
                    refine WL.nil ?_
                    refine hK44 _ _ ?_
                    refine wp_cond_true rfl ?_
                    refine wp_seq_k fun K45 hK45 => ?_
                    refine wp_region_list (WL.out ?_)
                    refine WL.val (by kernel_rfl) (.int .i64 42) (by go_simp) ?_
                    simp only [Act.put, List.setIfInBounds_toArray, List.set_cons_zero, List.set_cons_succ]
                    refine WL.nil ?_
                    refine hK45 _ _ ?_
                    refine wp_ret ?_
                    go_ret
                    exact ⟨by rw [HR.out, if_neg (show ¬ x.kind < 1 by omega), if_neg (show ¬ 9 < x.kind by omega), if_neg (show ¬ 65536 < x.key.size by omega), if_neg (show ¬ 65536 < x.text.size by omega), if_neg (show ¬ fbad x = true by unfold fbad; simp only [h9_1, h9_10, h9_14, h9_19]; simp), if_pos (show hat x.kind = true by rw [hhat]), if_neg (show ¬ mayAt (l.take i) x = true by simpa using h13_1)]; rfl, HW6.out⟩
                  · skip
                    refine WL.val (by kernel_rfl) (.bool false) (by go_simp) ?_
                    simp only [Act.put, List.setIfInBounds_toArray, List.set_cons_zero, List.set_cons_succ]
                    refine WL.nil ?_
                    refine hK44 _ _ ?_
                    refine wp_cond_false rfl ?_
                    refine wp_skip ?_
                    refine hK41 _ _ ?_
                    refine wp_seq_k fun K46 hK46 => ?_
                    refine wp_region_list (WL.out ?_)
                    refine WL.val (by kernel_rfl) (.int .i64 0) (by go_simp) ?_
                    simp only [Act.put, List.setIfInBounds_toArray, List.set_cons_zero, List.set_cons_succ]
                    refine WL.nil ?_
                    refine hK46 _ _ ?_
                    refine wp_ret ?_
                    go_ret
                    exact ⟨by rw [HR.out, if_neg (show ¬ x.kind < 1 by omega), if_neg (show ¬ 9 < x.kind by omega), if_neg (show ¬ 65536 < x.key.size by omega), if_neg (show ¬ 65536 < x.text.size by omega), if_neg (show ¬ fbad x = true by unfold fbad; simp only [h9_1, h9_10, h9_14, h9_19]; simp), if_pos (show hat x.kind = true by rw [hhat]), if_pos (show mayAt (l.take i) x = true by simpa using h13_1)]; rfl, HW6.out⟩
            · have h9_10p : x.kind = 6 := by simpa using h9_10
              refine WL.val (by kernel_rfl) (.bool false) (by go_simp) ?_
              simp only [Act.put, List.setIfInBounds_toArray, List.set_cons_zero, List.set_cons_succ]
              clear h9_10p
              refine WL.val (by kernel_rfl) (.bool false) (by go_simp) ?_
              simp only [Act.put, List.setIfInBounds_toArray, List.set_cons_zero, List.set_cons_succ]
              refine WL.skip (by kernel_rfl) ?_
              simp only [Act.put, List.setIfInBounds_toArray, List.set_cons_zero, List.set_cons_succ]
              refine WL.skip (by kernel_rfl) ?_
              simp only [Act.put, List.setIfInBounds_toArray, List.set_cons_zero, List.set_cons_succ]
              refine WL.skip (by kernel_rfl) ?_
              simp only [Act.put, List.setIfInBounds_toArray, List.set_cons_zero, List.set_cons_succ]
              refine WL.val (by kernel_rfl) (.bool false) (by go_simp) ?_
              simp only [Act.put, List.setIfInBounds_toArray, List.set_cons_zero, List.set_cons_succ]
              refine WL.val (by kernel_rfl) (.bool false) (by go_simp) ?_
              simp only [Act.put, List.setIfInBounds_toArray, List.set_cons_zero, List.set_cons_succ]
              refine WL.val (by kernel_rfl) (.bool false) (by go_simp) ?_
              simp only [Act.put, List.setIfInBounds_toArray, List.set_cons_zero, List.set_cons_succ]
              refine WL.val (by kernel_rfl) (.bool (hat x.kind)) (by go_simp) ?_
              simp only [Act.put, List.setIfInBounds_toArray, List.set_cons_zero, List.set_cons_succ]
              rcases Bool.eq_false_or_eq_true (!hat x.kind) with h9_19 | h9_19
              · skip
                refine WL.val (by kernel_rfl) (.bool true) (by go_simp) ?_
                simp only [Act.put, List.setIfInBounds_toArray, List.set_cons_zero, List.set_cons_succ]
                refine WL.val (by kernel_rfl) (.bool true) (by go_simp) ?_
                simp only [Act.put, List.setIfInBounds_toArray, List.set_cons_zero, List.set_cons_succ]
                refine WL.val (by kernel_rfl) (.bool (nd x.node z32 && x.op == 0)) (by go_simp) ?_
                simp only [Act.put, List.setIfInBounds_toArray, List.set_cons_zero, List.set_cons_succ]
                rcases Bool.eq_false_or_eq_true (!(nd x.node z32 && x.op == 0)) with h9_22 | h9_22
                · skip
                  refine WL.val (by kernel_rfl) (.bool true) (by go_simp) ?_
                  simp only [Act.put, List.setIfInBounds_toArray, List.set_cons_zero, List.set_cons_succ]
                  refine WL.val (by kernel_rfl) (.bool true) (by go_simp) ?_
                  simp only [Act.put, List.setIfInBounds_toArray, List.set_cons_zero, List.set_cons_succ]
                  refine WL.val (by kernel_rfl) (.bool true) (by go_simp) ?_
                  simp only [Act.put, List.setIfInBounds_toArray, List.set_cons_zero, List.set_cons_succ]
                  refine WL.val (by kernel_rfl) (.bool true) (by go_simp) ?_
                  simp only [Act.put, List.setIfInBounds_toArray, List.set_cons_zero, List.set_cons_succ]
                  refine WL.nil ?_
                  refine hK13 _ _ ?_
                  refine wp_cond_true rfl ?_
                  refine wp_seq_k fun K47 hK47 => ?_
                  refine wp_region_list (WL.out ?_)
                  refine WL.val (by kernel_rfl) (.int .i64 41) (by go_simp) ?_
                  simp only [Act.put, List.setIfInBounds_toArray, List.set_cons_zero, List.set_cons_succ]
                  refine WL.nil ?_
                  refine hK47 _ _ ?_
                  refine wp_ret ?_
                  go_ret
                  exact ⟨by rw [HR.out, if_neg (show ¬ x.kind < 1 by omega), if_neg (show ¬ 9 < x.kind by omega), if_neg (show ¬ 65536 < x.key.size by omega), if_neg (show ¬ 65536 < x.text.size by omega), if_pos (show fbad x = true by unfold fbad; simp only [h9_1, h9_10, h9_19, h9_22]; simp)]; rfl, HW5.out⟩
                · skip
                  refine WL.val (by kernel_rfl) (.bool false) (by go_simp) ?_
                  simp only [Act.put, List.setIfInBounds_toArray, List.set_cons_zero, List.set_cons_succ]
                  refine WL.val (by kernel_rfl) (.bool false) (by go_simp) ?_
                  simp only [Act.put, List.setIfInBounds_toArray, List.set_cons_zero, List.set_cons_succ]
                  refine WL.val (by kernel_rfl) (.bool false) (by go_simp) ?_
                  simp only [Act.put, List.setIfInBounds_toArray, List.set_cons_zero, List.set_cons_succ]
                  refine WL.val (by kernel_rfl) (.bool false) (by go_simp) ?_
                  simp only [Act.put, List.setIfInBounds_toArray, List.set_cons_zero, List.set_cons_succ]
                  refine WL.nil ?_
                  refine hK13 _ _ ?_
                  refine wp_cond_false rfl ?_
                  refine wp_skip ?_
                  refine hK6 _ _ ?_
                  refine wp_seq_k fun K48 hK48 => ?_
                  refine wp_seq_k fun K49 hK49 => ?_
                  refine wp_region_list (WL.out ?_)
                  have hhat : hat x.kind = false := by simpa using h9_19
                  rw [hhat]
                  refine WL.val (by kernel_rfl) (.bool false) (by go_simp) ?_
                  simp only [Act.put, List.setIfInBounds_toArray, List.set_cons_zero, List.set_cons_succ]
                  refine WL.nil ?_
                  refine hK49 _ _ ?_
                  refine wp_cond_false rfl ?_
                  refine wp_skip ?_
                  refine hK48 _ _ ?_
                  refine wp_seq_k fun K50 hK50 => ?_
                  refine wp_region_list (WL.out ?_)
                  refine WL.val (by kernel_rfl) (.int .i64 0) (by go_simp) ?_
                  simp only [Act.put, List.setIfInBounds_toArray, List.set_cons_zero, List.set_cons_succ]
                  refine WL.nil ?_
                  refine hK50 _ _ ?_
                  refine wp_ret ?_
                  go_ret
                  exact ⟨by rw [HR.out, if_neg (show ¬ x.kind < 1 by omega), if_neg (show ¬ 9 < x.kind by omega), if_neg (show ¬ 65536 < x.key.size by omega), if_neg (show ¬ 65536 < x.text.size by omega), if_neg (show ¬ fbad x = true by unfold fbad; simp only [h9_1, h9_10, h9_19, h9_22]; simp), if_neg (show ¬ hat x.kind = true by rw [hhat]; decide)]; rfl, HW5.out⟩
              · skip
                refine WL.val (by kernel_rfl) (.bool false) (by go_simp) ?_
                simp only [Act.put, List.setIfInBounds_toArray, List.set_cons_zero, List.set_cons_succ]
                refine WL.val (by kernel_rfl) (.bool false) (by go_simp) ?_
                simp only [Act.put, List.setIfInBounds_toArray, List.set_cons_zero, List.set_cons_succ]
                refine WL.skip (by kernel_rfl) ?_
                simp only [Act.put, List.setIfInBounds_toArray, List.set_cons_zero, List.set_cons_succ]
                refine WL.skip (by kernel_rfl) ?_
                simp only [Act.put, List.setIfInBounds_toArray, List.set_cons_zero, List.set_cons_succ]
                refine WL.val (by kernel_rfl) (.bool false) (by go_simp) ?_
                simp only [Act.put, List.setIfInBounds_toArray, List.set_cons_zero, List.set_cons_succ]
                refine WL.val (by kernel_rfl) (.bool false) (by go_simp) ?_
                simp only [Act.put, List.setIfInBounds_toArray, List.set_cons_zero, List.set_cons_succ]
                refine WL.val (by kernel_rfl) (.bool false) (by go_simp) ?_
                simp only [Act.put, List.setIfInBounds_toArray, List.set_cons_zero, List.set_cons_succ]
                refine WL.nil ?_
                refine hK13 _ _ ?_
                refine wp_cond_false rfl ?_
                refine wp_skip ?_
                refine hK6 _ _ ?_
                refine wp_seq_k fun K51 hK51 => ?_
                refine wp_seq_k fun K52 hK52 => ?_
                refine wp_region_list (WL.out ?_)
                have hhat : hat x.kind = true := by simpa using h9_19
                rw [hhat]
                refine WL.val (by kernel_rfl) (.bool true) (by go_simp) ?_
                simp only [Act.put, List.setIfInBounds_toArray, List.set_cons_zero, List.set_cons_succ]
                refine WL.nil ?_
                refine hK52 _ _ ?_
                refine wp_cond_true rfl ?_
                refine wp_seq_k fun K53 hK53 => ?_
                refine wp_region_list (WL.out ?_)
                refine WL.val (by kernel_rfl) (.slice va l.length vc) (by go_simp) ?_
                simp only [Act.put, List.setIfInBounds_toArray, List.set_cons_zero, List.set_cons_succ]
                refine WL.val (by kernel_rfl) (.int .i64 (i : Int)) (by go_simp) ?_
                simp only [Act.put, List.setIfInBounds_toArray, List.set_cons_zero, List.set_cons_succ]
                refine WL.callF (by kernel_rfl) 85 _ _ rfl Try.in85 #[.slice va l.length vc, .int .i64 (i : Int)] (by simp [Act.eval]) ?_
                refine (rmay_any _ l i w5 (HL.out.below HW5.out) Hi.out Hlb.out (by rw [← hx0.out]; exact Hok.out)).mono ?_
                rintro e w6 ⟨rfl, h6⟩
                rw [← hx0.out]
                refine ⟨_, rfl, ?_⟩
                have HW6 := Keep.mk (HW5.out.trans (h6.mono HW5.out.size))
                clear h6
                simp only [Act.put, List.setIfInBounds_toArray, List.set_cons_zero, List.set_cons_succ]
                refine WL.val (by kernel_rfl) (.bool (mayAt (l.take i) x)) (by go_simp) ?_
                simp only [Act.put, List.setIfInBounds_toArray, List.set_cons_zero, List.set_cons_succ]
                refine WL.nil ?_
                refine hK53 _ _ ?_
                refine wp_seq_k fun K54 hK54 => ?_
                refine wp_region_list (WL.out ?_)
                refine WL.val (by kernel_rfl) (.bool (mayAt (l.take i) x)) (by go_simp) ?_
                simp only [Act.put, List.setIfInBounds_toArray, List.set_cons_zero, List.set_cons_succ]
                rcases Bool.eq_false_or_eq_true (!mayAt (l.take i) x) with h13_1 | h13_1
                · skip
                  refine WL.val (by kernel_rfl) (.bool true) (by go_simp) ?_
                  simp only [Act.put, List.setIfInBounds_toArray, List.set_cons_zero, List.set_cons_succ]
                  refine WL.nil ?_
                  refine hK54 _ _ ?_
                  refine wp_cond_true rfl ?_
                  refine wp_seq_k fun K55 hK55 => ?_
                  refine wp_region_list (WL.out ?_)
                  refine WL.val (by kernel_rfl) (.int .i64 42) (by go_simp) ?_
                  simp only [Act.put, List.setIfInBounds_toArray, List.set_cons_zero, List.set_cons_succ]
                  refine WL.nil ?_
                  refine hK55 _ _ ?_
                  refine wp_ret ?_
                  go_ret
                  exact ⟨by rw [HR.out, if_neg (show ¬ x.kind < 1 by omega), if_neg (show ¬ 9 < x.kind by omega), if_neg (show ¬ 65536 < x.key.size by omega), if_neg (show ¬ 65536 < x.text.size by omega), if_neg (show ¬ fbad x = true by unfold fbad; simp only [h9_1, h9_10, h9_19]; simp), if_pos (show hat x.kind = true by rw [hhat]), if_neg (show ¬ mayAt (l.take i) x = true by simpa using h13_1)]; rfl, HW6.out⟩
                · skip
                  refine WL.val (by kernel_rfl) (.bool false) (by go_simp) ?_
                  simp only [Act.put, List.setIfInBounds_toArray, List.set_cons_zero, List.set_cons_succ]
                  refine WL.nil ?_
                  refine hK54 _ _ ?_
                  refine wp_cond_false rfl ?_
                  refine wp_skip ?_
                  refine hK51 _ _ ?_
                  refine wp_seq_k fun K56 hK56 => ?_
                  refine wp_region_list (WL.out ?_)
                  refine WL.val (by kernel_rfl) (.int .i64 0) (by go_simp) ?_
                  simp only [Act.put, List.setIfInBounds_toArray, List.set_cons_zero, List.set_cons_succ]
                  refine WL.nil ?_
                  refine hK56 _ _ ?_
                  refine wp_ret ?_
                  go_ret
                  exact ⟨by rw [HR.out, if_neg (show ¬ x.kind < 1 by omega), if_neg (show ¬ 9 < x.kind by omega), if_neg (show ¬ 65536 < x.key.size by omega), if_neg (show ¬ 65536 < x.text.size by omega), if_neg (show ¬ fbad x = true by unfold fbad; simp only [h9_1, h9_10, h9_19]; simp), if_pos (show hat x.kind = true by rw [hhat]), if_pos (show mayAt (l.take i) x = true by simpa using h13_1)]; rfl, HW6.out⟩

theorem wp_newA {P : Program} {o : Oper} {a : Act} {w : World} {K : Act → World → Prop} {Q : Exit → Act → World → Prop} (t : TypeId) (ho : o.op = .alloc t)
    (cells : Array Value) (hf : ∀ w : World, (Instr.alloc t true (.tuple #[])).run P w = .ok (.pointer (some ⟨w.heap.size, 0, none⟩)) (w.alloc (.cells cells t)))
    (h : K (a.put o.dst (.pointer (some ⟨w.heap.size, 0, none⟩))) (w.alloc (.cells cells t))) : o.wp P a w K Q := by
  unfold Oper.wp execOp
  simp only [ho, Sem.run_bind, hf w, Result.andThen_ok]
  exact h
set_option maxRecDepth 8000 in
set_option maxHeartbeats 1000000 in
theorem rcheck_any (v : Value) (l : List OpV) (w : World) (hl : OpsAt w v l) (hok : ∀ x ∈ l, OpOk x) (hb : l.length ≤ 4398046511104) :
    Calls Try.prog 32 #[v] w fun e w' => e = .returned (.tuple #[.int .i64 (chk l).1, .int .i64 ((chk l).2 : Int)]) ∧ Below w.heap.size w w' := by
  obtain ⟨va, vc, rfl⟩ := hl.form
  have HL := Keep.mk hl
  have Hok := Keep.mk hok
  have Hlb := Keep.mk hb
  have hb' : (l.length : Int) ≤ 9223372036854775807 := by omega
  obtain ⟨R, hR⟩ : ∃ R, R = chk l := ⟨_, rfl⟩
  rw [← hR]
  unfold chk at hR
  have HR := Keep.mk hR
  clear hl hok hb hR
  go_enter Try.func32, Try.ntmps32
  by_cases hM : 1024 < l.length
  · have hM' : (1024 : Int) < (l.length : Int) := by omega
    rw [if_pos hM] at HR
    refine wp_seq_k fun K1 hK1 => ?_
    refine wp_region_list (WL.out ?_)
    refine WL.val (by kernel_rfl) (.int .i64 0) (by go_simp) ?_
    simp only [Act.put, List.setIfInBounds_toArray, List.set_cons_zero, List.set_cons_succ]
    refine WL.val (by kernel_rfl) (.int .i64 0) (by go_simp) ?_
    simp only [Act.put, List.setIfInBounds_toArray, List.set_cons_zero, List.set_cons_succ]
    refine WL.nil ?_
    refine hK1 _ _ ?_
    refine wp_seq_k fun K2 hK2 => ?_
    refine wp_seq_k fun K3 hK3 => ?_
    refine wp_region_list (WL.out ?_)
    refine WL.val (by kernel_rfl) (.slice va l.length vc) (by go_simp) ?_
    simp only [Act.put, List.setIfInBounds_toArray, List.set_cons_zero, List.set_cons_succ]
    refine WL.val (by kernel_rfl) (.int .i64 (l.length : Int)) (by go_simp) ?_
    simp only [Act.put, List.setIfInBounds_toArray, List.set_cons_zero, List.set_cons_succ]
    refine WL.val (by kernel_rfl) (.bool true) (by go_simp) ?_
    simp only [Act.put, List.setIfInBounds_toArray, List.set_cons_zero, List.set_cons_succ]
    refine WL.nil ?_
    refine hK3 _ _ ?_
    refine wp_cond_true rfl ?_
    refine wp_seq_k fun K4 hK4 => ?_
    refine wp_region_list (WL.out ?_)
    refine WL.val (by kernel_rfl) (.int .i64 3) (by go_simp) ?_
    simp only [Act.put, List.setIfInBounds_toArray, List.set_cons_zero, List.set_cons_succ]
    refine WL.val (by kernel_rfl) (.int .i64 0) (by go_simp) ?_
    simp only [Act.put, List.setIfInBounds_toArray, List.set_cons_zero, List.set_cons_succ]
    refine WL.nil ?_
    refine hK4 _ _ ?_
    refine wp_ret ?_
    go_ret2
    exact ⟨by rw [HR.out]; rfl, Below.refl _ _⟩
  · have hM' : ¬ (1024 : Int) < (l.length : Int) := by omega
    rw [if_neg hM] at HR
    refine wp_seq_k fun K1 hK1 => ?_
    refine wp_region_list (WL.out ?_)
    refine WL.val (by kernel_rfl) (.int .i64 0) (by go_simp) ?_
    simp only [Act.put, List.setIfInBounds_toArray, List.set_cons_zero, List.set_cons_succ]
    refine WL.val (by kernel_rfl) (.int .i64 0) (by go_simp) ?_
    simp only [Act.put, List.setIfInBounds_toArray, List.set_cons_zero, List.set_cons_succ]
    refine WL.nil ?_
    refine hK1 _ _ ?_
    refine wp_seq_k fun K2 hK2 => ?_
    refine wp_seq_k fun K3 hK3 => ?_
    refine wp_region_list (WL.out ?_)
    refine WL.val (by kernel_rfl) (.slice va l.length vc) (by go_simp) ?_
    simp only [Act.put, List.setIfInBounds_toArray, List.set_cons_zero, List.set_cons_succ]
    refine WL.val (by kernel_rfl) (.int .i64 (l.length : Int)) (by go_simp) ?_
    simp only [Act.put, List.setIfInBounds_toArray, List.set_cons_zero, List.set_cons_succ]
    refine WL.val (by kernel_rfl) (.bool false) (by go_simp) ?_
    simp only [Act.put, List.setIfInBounds_toArray, List.set_cons_zero, List.set_cons_succ]
    refine WL.nil ?_
    refine hK3 _ _ ?_
    refine wp_cond_false rfl ?_
    refine wp_skip ?_
    refine hK2 _ _ ?_
    refine wp_seq_k fun K4 hK4 => ?_
    refine wp_seq_k fun K5 hK5 => ?_
    refine wp_region_list (WL.out ?_)
    refine WL.val (by kernel_rfl) (.int .i64 0) (by go_simp) ?_
    simp only [Act.put, List.setIfInBounds_toArray, List.set_cons_zero, List.set_cons_succ]
    refine WL.nil ?_
    refine hK5 _ _ ?_
    refine wp_block ?_
    refine wp_loop (fun a wr => ∃ (t : Nat) (u2 u3 u5 u9 u10 u11 u12 u13 u14 u15 u16 u17 u18 u19 u20 u21 : Value), a = { tmps := #[.slice va l.length vc, undef, u2, u3, .int .i64 (t : Int), u5, .slice va l.length vc, .int .i64 (l.length : Int), .bool false, u9, u10, u11, u12, u13, u14, u15, u16, u17, u18, u19, u20, u21], defers := [] } ∧ t ≤ l.length ∧ chkF [] l = chkF (l.take t) (l.drop t) ∧ Below w.heap.size w wr) (fun a _ => l.length - (intOf (a.tmps.getD 4 undef)).toNat) ⟨0, .int .i64 0, .int .i64 0, undef, undef, undef, undef, undef, undef, undef, undef, undef, undef, undef, undef, undef, undef, rfl, by omega, rfl, Below.refl _ _⟩ ?_
    rintro a wr ⟨t, u2, u3, u5, u9, u10, u11, u12, u13, u14, u15, u16, u17, u18, u19, u20, u21, rfl, ht, hC, hB⟩
    by_cases htl : t < l.length
    · have htl' : (t : Int) < (l.length : Int) := by omega
      have hst := chkF_step l t htl
      have hmem : l.getD t zeroOp ∈ l := by simp [List.getD_eq_getElem?_getD, htl]
      have Hx := Keep.mk (Hok.out _ hmem)
      have hwr1 : IntKind.i64.wrap ((t : Int) + 1) = (t : Int) + 1 := by rw [IntKind.wrap_i64]; have := Hlb.out; omega
      obtain ⟨x, hxk⟩ : ∃ x, Keep (x = l.getD t zeroOp) := ⟨_, ⟨rfl⟩⟩
      rw [← hxk.out] at hst
      have Hst := Keep.mk hst
      have Htl := Keep.mk htl
      clear hst hmem
      refine wp_seq_k fun K6 hK6 => ?_
      refine wp_seq_k fun K7 hK7 => ?_
      refine wp_region_list (WL.out ?_)
      refine WL.val (by kernel_rfl) (.int .i64 (t : Int)) (by go_simp) ?_
      simp only [Act.put, List.setIfInBounds_toArray, List.set_cons_zero, List.set_cons_succ]
      refine WL.val (by kernel_rfl) (.slice va l.length vc) (by go_simp) ?_
      simp only [Act.put, List.setIfInBounds_toArray, List.set_cons_zero, List.set_cons_succ]
      refine WL.val (by kernel_rfl) (.int .i64 (l.length : Int)) (by go_simp) ?_
      simp only [Act.put, List.setIfInBounds_toArray, List.set_cons_zero, List.set_cons_succ]
      refine WL.val (by kernel_rfl) (.bool true) (by go_simp) ?_
      simp only [Act.put, List.setIfInBounds_toArray, List.set_cons_zero, List.set_cons_succ]
      refine WL.nil ?_
      refine hK7 _ _ ?_
      refine wp_cond_true rfl ?_
      refine wp_skip ?_
      refine hK6 _ _ ?_
      refine wp_seq_k fun K8 hK8 => ?_
      refine wp_block ?_
      refine wp_seq_k fun K9 hK9 => ?_
      refine wp_region_list (WL.out ?_)
      refine WL.val (by kernel_rfl) (.slice va l.length vc) (by go_simp) ?_
      simp only [Act.put, List.setIfInBounds_toArray, List.set_cons_zero, List.set_cons_succ]
      refine WL.val (by kernel_rfl) (.int .i64 (t : Int)) (by go_simp) ?_
      simp only [Act.put, List.setIfInBounds_toArray, List.set_cons_zero, List.set_cons_succ]
      refine WL.callF (by kernel_rfl) 55 _ _ rfl Try.in55 #[.slice va l.length vc, .int .i64 (t : Int)] (by simp [Act.eval]) ?_
      refine (rwrong_any _ l t wr (HL.out.below hB) Htl.out Hlb.out Hx.out).mono ?_
      rintro e w5 ⟨rfl, h5⟩
      rw [← hxk.out]
      refine ⟨_, rfl, ?_⟩
      have HB5 := Keep.mk (hB.trans (h5.mono hB.size))
      clear h5
      simp only [Act.put, List.setIfInBounds_toArray, List.set_cons_zero, List.set_cons_succ]
      refine WL.val (by kernel_rfl) (.int .i64 (wrongV (l.take t) x)) (by go_simp) ?_
      simp only [Act.put, List.setIfInBounds_toArray, List.set_cons_zero, List.set_cons_succ]
      refine WL.nil ?_
      refine hK9 _ _ ?_
      refine wp_seq_k fun K10 hK10 => ?_
      refine wp_region_list (WL.out ?_)
      refine WL.val (by kernel_rfl) (.int .i64 (wrongV (l.take t) x)) (by go_simp) ?_
      simp only [Act.put, List.setIfInBounds_toArray, List.set_cons_zero, List.set_cons_succ]
      by_cases h7_1 : wrongV (l.take t) x = 0
      · skip
        refine WL.val (by kernel_rfl) (.bool false) (by go_simp) ?_
        simp only [Act.put, List.setIfInBounds_toArray, List.set_cons_zero, List.set_cons_succ]
        refine WL.nil ?_
        refine hK10 _ _ ?_
        refine wp_cond_false rfl ?_
        refine wp_skip ?_
        refine hK8 _ _ ?_
        refine wp_region_list (WL.out ?_)
        refine WL.val (by kernel_rfl) (.int .i64 (t : Int)) (by go_simp) ?_
        simp only [Act.put, List.setIfInBounds_toArray, List.set_cons_zero, List.set_cons_succ]
        refine WL.val (by kernel_rfl) (.int .i64 ((t : Int) + 1)) (by go_simp) ?_
        simp only [Act.put, List.setIfInBounds_toArray, List.set_cons_zero, List.set_cons_succ]
        refine WL.val (by kernel_rfl) (.int .i64 ((t : Int) + 1)) (by go_simp) ?_
        simp only [Act.put, List.setIfInBounds_toArray, List.set_cons_zero, List.set_cons_succ]
        refine WL.nil ?_
        rw [if_pos h7_1] at Hst
        refine ⟨⟨t + 1, u2, u3, .int .i64 (wrongV (l.take t) x), .int .i64 (t : Int), .slice va l.length vc, .int .i64 (l.length : Int), .bool true, .int .i64 (t : Int), .int .i64 ((t : Int) + 1), .slice va l.length vc, .int .i64 (t : Int), .int .i64 (wrongV (l.take t) x), .int .i64 (wrongV (l.take t) x), .bool false, u20, u21, rfl, by omega, hC.trans Hst.out, HB5.out⟩, ?_⟩
        simp only [intOf]; show l.length - ((t : Int) + 1).toNat < l.length - ((t : Int)).toNat; omega
      · skip
        refine WL.val (by kernel_rfl) (.bool true) (by go_simp) ?_
        simp only [Act.put, List.setIfInBounds_toArray, List.set_cons_zero, List.set_cons_succ]
        refine WL.nil ?_
        refine hK10 _ _ ?_
        refine wp_cond_true rfl ?_
        refine wp_seq_k fun K11 hK11 => ?_
        refine wp_region_list (WL.out ?_)
        refine WL.val (by kernel_rfl) (.int .i64 (wrongV (l.take t) x)) (by go_simp) ?_
        simp only [Act.put, List.setIfInBounds_toArray, List.set_cons_zero, List.set_cons_succ]
        refine WL.val (by kernel_rfl) (.int .i64 (t : Int)) (by go_simp) ?_
        simp only [Act.put, List.setIfInBounds_toArray, List.set_cons_zero, List.set_cons_succ]
        refine WL.val (by kernel_rfl) (.int .i64 (wrongV (l.take t) x)) (by go_simp) ?_
        simp only [Act.put, List.setIfInBounds_toArray, List.set_cons_zero, List.set_cons_succ]
        refine WL.val (by kernel_rfl) (.int .i64 (t : Int)) (by go_simp) ?_
        simp only [Act.put, List.setIfInBounds_toArray, List.set_cons_zero, List.set_cons_succ]
        refine WL.nil ?_
        refine hK11 _ _ ?_
        refine wp_ret ?_
        rw [if_neg h7_1] at Hst
        go_ret2
        exact ⟨by rw [HR.out, hC, Hst.out]; rfl, HB5.out⟩
    · have hte : Keep (t = l.length) := ⟨by omega⟩
      have htl' : ¬ (t : Int) < (l.length : Int) := by omega
      refine wp_seq_k fun K12 hK12 => ?_
      refine wp_seq_k fun K13 hK13 => ?_
      refine wp_region_list (WL.out ?_)
      refine WL.val (by kernel_rfl) (.int .i64 (t : Int)) (by go_simp) ?_
      simp only [Act.put, List.setIfInBounds_toArray, List.set_cons_zero, List.set_cons_succ]
      refine WL.val (by kernel_rfl) (.slice va l.length vc) (by go_simp) ?_
      simp only [Act.put, List.setIfInBounds_toArray, List.set_cons_zero, List.set_cons_succ]
      refine WL.val (by kernel_rfl) (.int .i64 (l.length : Int)) (by go_simp) ?_
      simp only [Act.put, List.setIfInBounds_toArray, List.set_cons_zero, List.set_cons_succ]
      refine WL.val (by kernel_rfl) (.bool false) (by go_simp) ?_
      simp only [Act.put, List.setIfInBounds_toArray, List.set_cons_zero, List.set_cons_succ]
      refine WL.nil ?_
      refine hK13 _ _ ?_
      refine wp_cond_false rfl ?_
      refine wp_exit ?_
      refine hK4 _ _ ?_
      refine wp_seq_k fun K14 hK14 => ?_
      refine wp_region_list (WL.out ?_)
      refine WL.val (by kernel_rfl) (.int .i64 0) (by go_simp) ?_
      simp only [Act.put, List.setIfInBounds_toArray, List.set_cons_zero, List.set_cons_succ]
      refine WL.val (by kernel_rfl) (.int .i64 0) (by go_simp) ?_
      simp only [Act.put, List.setIfInBounds_toArray, List.set_cons_zero, List.set_cons_succ]
      refine WL.nil ?_
      refine hK14 _ _ ?_
      refine wp_ret ?_
      go_ret2
      exact ⟨by rw [HR.out, hC, hte.out, List.drop_length]; rfl, hB⟩

theorem sm_next (x : OpV) : sm x { x with op := IntKind.i64.wrap (x.op + 1) } = false := by
  have : (x.op == IntKind.i64.wrap (x.op + 1)) = false := by
    simp only [beq_eq_false_iff_ne, ne_eq]
    rw [IntKind.wrap_i64]; omega
  simp [sm, this]
end Go.Proofs.Ytgpgnldcdimmbaa
