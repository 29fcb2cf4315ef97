import Derived.Test.YtlogkojhcccogaaC08
import Derived.Test.YtlogkojhcccogaaC04
import Derived.Test.YtlogkojhcccogaaC05
import Derived.Deep.DeepAppendWide
import Derived.LaidEql
import Derived.ProofKit
import Derived.OpenShut
import Derived.ShutString
import Derived.ChangeOld
import Derived.Below
import Derived.SizedLaws
import Derived.Deep.Slices
import Derived.Deep.Strs
namespace Go.Proofs.Ytlogkojhcccogaa
open Go.RowKit
set_option linter.unusedSimpArgs false
set_option linter.unusedVariables false

def erA (why b : Int) : Array Value := #[.int .i64 why, .int .i64 b]
theorem erA_sizes (a b c d : Int) : (erA a b).size = (erA c d).size := rfl
theorem erA_one (a b : Int) : (erA a b).all (·.oneCell') = true := by simp [erA, Value.oneCell']
theorem Try.size41B (a b : Int) : (Try.prog.info? 41).map (·.size) = some (erA a b).size := Try.size41
theorem Try.new41E (w : World) : (Instr.alloc 41 true (.tuple #[])).run Try.prog w = .ok (.pointer (some ⟨w.heap.size, 0, none⟩)) (w.alloc (.cells (erA 0 0) 41)) := by kernel_rfl
theorem er_built : Try.prog.built 41 [] = some (erA 0 0) := by kernel_rfl
theorem er_built2 (a b : Int) : Try.prog.built 41 [(0, .int .i64 a), (1, .int .i64 b)] = some (erA a b) := by kernel_rfl
theorem assertBad (v : Value) (W : World) : (Instr.typeAssert (.iface 116 v) 37 116 true).run Try.prog W = .ok (.tuple #[v, .bool true]) W := by kernel_rfl
theorem assertN0 (W : World) : (Instr.typeAssert .nilIface 37 29 true).run Try.prog W = .ok (.tuple #[.int .i64 0, .bool false]) W := by kernel_rfl
theorem assertN1 (v : Value) (W : World) : (Instr.typeAssert (.iface 116 v) 37 29 true).run Try.prog W = .ok (.tuple #[.int .i64 0, .bool false]) W := by kernel_rfl
theorem assertN2 (W : World) : (Instr.typeAssert (.iface 29 (.int .i64 4)) 37 29 true).run Try.prog W = .ok (.tuple #[.int .i64 4, .bool true]) W := by kernel_rfl
theorem Try.in15 (w : World) (vs : Array Value) : (callFunc 15 vs).run Try.prog w = .ok (.enter 15 vs) w := by kernel_rfl
theorem Try.in45 (w : World) (vs : Array Value) : (callFunc 45 vs).run Try.prog w = .ok (.enter 45 vs) w := by kernel_rfl
set_option maxRecDepth 8000 in
theorem placed_nil (w : World) : Calls Try.prog 45 #[.nilIface] w fun e w' => e = .returned (.tuple #[.agg (erA 0 0), .bool true]) ∧ Below w.heap.size w w' := by
  go_enter Try.func45, Try.ntmps45
  refine wp_seq_k fun K1 hK1 => ?_
  refine wp_region_list (WL.out ?_)
  refine WL.new (by kernel_rfl) 41 rfl _ Try.new41E ?_
  have HZ := Keep.mk (Blk.new w 41 (erA 0 0))
  have HB := Keep.mk (below_new w (.cells (erA 0 0) 41))
  generalize w.alloc (.cells (erA 0 0) 41) = w1 at *
  simp only [Act.put, List.setIfInBounds_toArray, List.set_cons_zero, List.set_cons_succ]
  refine WL.val (by kernel_rfl) (.bool false) (by go_simp) ?_
  simp only [Act.put, List.setIfInBounds_toArray, List.set_cons_zero, List.set_cons_succ]
  refine WL.nil ?_
  refine hK1 _ _ ?_
  refine wp_seq_k fun K2 hK2 => ?_
  refine wp_seq_k fun K3 hK3 => ?_
  refine wp_region_list (WL.out ?_)
  refine WL.val (by kernel_rfl) (.nilIface) (by go_simp) ?_
  simp only [Act.put, List.setIfInBounds_toArray, List.set_cons_zero, List.set_cons_succ]
  refine WL.val (by kernel_rfl) (.bool true) (by go_simp) ?_
  simp only [Act.put, List.setIfInBounds_toArray, List.set_cons_zero, List.set_cons_succ]
  refine WL.nil ?_
  refine hK3 _ _ ?_
  refine wp_cond_true rfl ?_
  refine wp_seq_k fun K4 hK4 => ?_
  refine wp_region_list (WL.out ?_)
  refine WL.bld (by kernel_rfl) 41 _ rfl [] (by simp) _ er_built ?_
  simp only [Act.put, List.setIfInBounds_toArray, List.set_cons_zero, List.set_cons_succ]
  refine WL.storeR (by kernel_rfl) 41 (.tmp 2) (.tmp 8) rfl w.heap.size (erA 0 0) rfl rfl 41 (erA 0 0) HZ.out (Try.size41B _ _) (erA_sizes _ _ _ _) (erA_one _ _) ?_
  simp only [Act.put]
  refine WL.val (by kernel_rfl) (.bool true) (by go_simp) ?_
  simp only [Act.put, List.setIfInBounds_toArray, List.set_cons_zero, List.set_cons_succ]
  refine WL.nil ?_
  refine hK4 _ _ ?_
  refine wp_ret ?_
  try simp only [Exit.then]
  refine bodyPost_ret (v := .tuple #[.agg (erA 0 0), .bool true]) (results_cell_row2 Try.results45 _ _ w.heap.size 41 _ (0, 0) _ _ rfl rfl (HZ.out.setRow _) Try.underlying41 rfl (Try.size41B _ _)) rfl ?_
  exact ⟨rfl, below_setRow HB.out (Nat.le_refl _) _⟩
theorem run_bldE (a b : Int) (w : World) : (Next.value <$> Instr.build 41 #[(0, .int .i64 a), (1, .int .i64 b)]).run Try.prog w = .ok (.value (.agg (erA a b))) w := by kernel_rfl
set_option maxRecDepth 8000 in
theorem placed_err (q : Nat) (why : Int) (a : Nat) (w : World) (hq : BadAt w q why a) (hw : why ≠ 0) : Calls Try.prog 45 #[err q] w fun e w' => e = .returned (.tuple #[.agg (erA why (a : Int)), .bool true]) ∧ Below w.heap.size w w' := by
  have HQ : Keep (Blk w q 126 #[.int .i64 why, .int .i64 (a : Int)]) := ⟨hq⟩
  have has := assertBad (ptr q)
  clear hq
  unfold err
  go_enter Try.func45, Try.ntmps45
  refine wp_seq_k fun K1 hK1 => ?_
  refine wp_region_list (WL.out ?_)
  refine WL.new (by kernel_rfl) 41 rfl _ Try.new41E ?_
  have HZ := Keep.mk (Blk.new w 41 (erA 0 0))
  have HB := Keep.mk (below_new w (.cells (erA 0 0) 41))
  have HQ1 := Keep.mk (HQ.out.alloc (.cells (erA 0 0) 41))
  generalize w.alloc (.cells (erA 0 0) 41) = w1 at *
  simp only [Act.put, List.setIfInBounds_toArray, List.set_cons_zero, List.set_cons_succ]
  refine WL.val (by kernel_rfl) (.bool false) (by go_simp) ?_
  simp only [Act.put, List.setIfInBounds_toArray, List.set_cons_zero, List.set_cons_succ]
  refine WL.nil ?_
  refine hK1 _ _ ?_
  refine wp_seq_k fun K2 hK2 => ?_
  refine wp_seq_k fun K3 hK3 => ?_
  refine wp_region_list (WL.out ?_)
  refine WL.val (by kernel_rfl) (.iface 116 (ptr q)) (by go_simp) ?_
  simp only [Act.put, List.setIfInBounds_toArray, List.set_cons_zero, List.set_cons_succ]
  refine WL.val (by kernel_rfl) (.bool false) (by go_simp) ?_
  simp only [Act.put, List.setIfInBounds_toArray, List.set_cons_zero, List.set_cons_succ]
  refine WL.nil ?_
  refine hK3 _ _ ?_
  refine wp_cond_false rfl ?_
  refine wp_skip ?_
  refine hK2 _ _ ?_
  refine wp_seq_k fun K4 hK4 => ?_
  refine wp_region_list (WL.out ?_)
  refine WL.val (by kernel_rfl) (.iface 116 (ptr q)) (by go_simp) ?_
  simp only [Act.put, List.setIfInBounds_toArray, List.set_cons_zero, List.set_cons_succ]
  refine WL.val (by kernel_rfl) (.tuple #[ptr q, .bool true]) (by go_simp) ?_
  simp only [Act.put, List.setIfInBounds_toArray, List.set_cons_zero, List.set_cons_succ]
  refine WL.val (by kernel_rfl) (.tuple #[ptr q, .bool true]) (by go_simp) ?_
  simp only [Act.put, List.setIfInBounds_toArray, List.set_cons_zero, List.set_cons_succ]
  refine WL.val (by kernel_rfl) (ptr q) (by go_simp) ?_
  simp only [Act.put, List.setIfInBounds_toArray, List.set_cons_zero, List.set_cons_succ]
  refine WL.val (by kernel_rfl) (.bool true) (by go_simp) ?_
  simp only [Act.put, List.setIfInBounds_toArray, List.set_cons_zero, List.set_cons_succ]
  refine WL.val (by kernel_rfl) (ptr q) (by go_simp) ?_
  simp only [Act.put, List.setIfInBounds_toArray, List.set_cons_zero, List.set_cons_succ]
  refine WL.val (by kernel_rfl) (.bool true) (by go_simp) ?_
  simp only [Act.put, List.setIfInBounds_toArray, List.set_cons_zero, List.set_cons_succ]
  refine WL.nil ?_
  refine hK4 _ _ ?_
  refine wp_seq_k fun K5 hK5 => ?_
  refine wp_seq_k fun K6 hK6 => ?_
  refine wp_region_list (WL.out ?_)
  refine WL.val (by kernel_rfl) (.bool true) (by go_simp) ?_
  simp only [Act.put, List.setIfInBounds_toArray, List.set_cons_zero, List.set_cons_succ]
  refine WL.val (by kernel_rfl) (.bool false) (by go_simp) ?_
  simp only [Act.put, List.setIfInBounds_toArray, List.set_cons_zero, List.set_cons_succ]
  refine WL.val (by kernel_rfl) (.bool false) (by go_simp) ?_
  simp only [Act.put, List.setIfInBounds_toArray, List.set_cons_zero, List.set_cons_succ]
  refine WL.val (by kernel_rfl) (ptr q) (by go_simp) ?_
  simp only [Act.put, List.setIfInBounds_toArray, List.set_cons_zero, List.set_cons_succ]
  refine WL.val (by kernel_rfl) (.bool false) (by go_simp) ?_
  simp only [Act.put, List.setIfInBounds_toArray, List.set_cons_zero, List.set_cons_succ]
  refine WL.val (by kernel_rfl) (.bool false) (by go_simp) ?_
  simp only [Act.put, List.setIfInBounds_toArray, List.set_cons_zero, List.set_cons_succ]
  refine WL.nil ?_
  refine hK6 _ _ ?_
  refine wp_cond_false rfl ?_
  refine wp_skip ?_
  refine hK5 _ _ ?_
  refine wp_seq_k fun K7 hK7 => ?_
  have HS : Keep (∀ wx, Blk wx q 126 #[.int .i64 why, .int .i64 (a : Int)] → wx.cell? ⟨q, 0, none⟩ = some (.int .i64 why) ∧ wx.cell? ⟨q, 1, none⟩ = some (.int .i64 (a : Int))) := ⟨fun wx h => ⟨h.c 0 rfl, h.c 1 rfl⟩⟩
  refine wp_region_held_drew (S := fun wx => wx.cell? ⟨q, 0, none⟩ = some (.int .i64 why) ∧ wx.cell? ⟨q, 1, none⟩ = some (.int .i64 (a : Int))) (by kernel_rfl) (HS.out _ HQ1.out.drew) (fun hHeld => ?_)
  refine wpAnyH_take (i := 0) (oi := ⟨some 21, Op.move (Operand.tmp 4), 116, _, _, none⟩) (v := .pointer (some ⟨q, 0, none⟩)) rfl (by kernel_rfl) (by kernel_rfl) (by kernel_rfl) (fun _ _ _ h => h) (Or.inl ⟨by rfl, fun w hS => by obtain ⟨hs1, hs2⟩ := hS; go_simp⟩) hHeld ?_
  simp only [Act.put, List.setIfInBounds_toArray, List.set_cons_zero, List.set_cons_succ]
  refine wpAnyH_take (i := 1) (oi := ⟨some 22, Op.nilCheck (Operand.tmp 21), 0, _, _, none⟩) (v := .pointer (some ⟨q, 0, none⟩)) rfl (by kernel_rfl) (by kernel_rfl) (by kernel_rfl) (fun _ _ _ h => h) (Or.inl ⟨by rfl, fun w hS => by obtain ⟨hs1, hs2⟩ := hS; go_simp⟩) hHeld ?_
  simp only [Act.put, List.setIfInBounds_toArray, List.set_cons_zero, List.set_cons_succ]
  refine wpAnyH_take (i := 2) (oi := ⟨some 23, Op.fieldAddr 126 (Operand.tmp 22) 0, 0, _, _, none⟩) (v := .pointer (some ⟨q, 0, none⟩)) rfl (by kernel_rfl) (by kernel_rfl) (by kernel_rfl) (fun _ _ _ h => h) (Or.inl ⟨by rfl, fun w hS => by obtain ⟨hs1, hs2⟩ := hS; go_simp⟩) hHeld ?_
  simp only [Act.put, List.setIfInBounds_toArray, List.set_cons_zero, List.set_cons_succ]
  refine wpAnyH_take (i := 3) (oi := ⟨some 24, Op.load 29 (Operand.tmp 23), 29, _, _, none⟩) (v := .int .i64 why) rfl (by kernel_rfl) (by kernel_rfl) (by kernel_rfl) (fun _ _ _ h => h) (Or.inl ⟨by rfl, fun w hS => by obtain ⟨hs1, hs2⟩ := hS; go_simp⟩) hHeld ?_
  simp only [Act.put, List.setIfInBounds_toArray, List.set_cons_zero, List.set_cons_succ]
  refine wpAnyH_take (i := 4) (oi := ⟨some 25, Op.move (Operand.tmp 4), 116, _, _, none⟩) (v := .pointer (some ⟨q, 0, none⟩)) rfl (by kernel_rfl) (by kernel_rfl) (by kernel_rfl) (fun _ _ _ h => h) (Or.inl ⟨by rfl, fun w hS => by obtain ⟨hs1, hs2⟩ := hS; go_simp⟩) hHeld ?_
  simp only [Act.put, List.setIfInBounds_toArray, List.set_cons_zero, List.set_cons_succ]
  refine wpAnyH_take (i := 5) (oi := ⟨some 26, Op.nilCheck (Operand.tmp 25), 0, _, _, none⟩) (v := .pointer (some ⟨q, 0, none⟩)) rfl (by kernel_rfl) (by kernel_rfl) (by kernel_rfl) (fun _ _ _ h => h) (Or.inl ⟨by rfl, fun w hS => by obtain ⟨hs1, hs2⟩ := hS; go_simp⟩) hHeld ?_
  simp only [Act.put, List.setIfInBounds_toArray, List.set_cons_zero, List.set_cons_succ]
  refine wpAnyH_take (i := 6) (oi := ⟨some 27, Op.fieldAddr 126 (Operand.tmp 26) 1, 0, _, _, none⟩) (v := .pointer (some ⟨q, 1, none⟩)) rfl (by kernel_rfl) (by kernel_rfl) (by kernel_rfl) (fun _ _ _ h => h) (Or.inl ⟨by rfl, fun w hS => by obtain ⟨hs1, hs2⟩ := hS; go_simp⟩) hHeld ?_
  simp only [Act.put, List.setIfInBounds_toArray, List.set_cons_zero, List.set_cons_succ]
  refine wpAnyH_take (i := 7) (oi := ⟨some 28, Op.load 3 (Operand.tmp 27), 3, _, _, none⟩) (v := .int .i64 (a : Int)) rfl (by kernel_rfl) (by kernel_rfl) (by kernel_rfl) (fun _ _ _ h => h) (Or.inl ⟨by rfl, fun w hS => by obtain ⟨hs1, hs2⟩ := hS; go_simp⟩) hHeld ?_
  simp only [Act.put, List.setIfInBounds_toArray, List.set_cons_zero, List.set_cons_succ]
  refine wpAnyH_take (i := 8) (oi := ⟨some 29, Op.build 41 #[(0, Operand.tmp 24), (1, Operand.tmp 28)], 41, _, _, none⟩) (v := .agg #[.int .i64 why, .int .i64 (a : Int)]) rfl (by kernel_rfl) (by kernel_rfl) (by kernel_rfl) (fun _ _ _ h => h) (Or.inl ⟨by rfl, fun w hS => by go_simp⟩) hHeld ?_
  simp only [Act.put, List.setIfInBounds_toArray, List.set_cons_zero, List.set_cons_succ]
  refine wpAnyH_take (i := 9) (oi := ⟨some 30, Op.move (Operand.tmp 4), 116, _, _, none⟩) (v := .pointer (some ⟨q, 0, none⟩)) rfl (by kernel_rfl) (by kernel_rfl) (by kernel_rfl) (fun _ _ _ h => h) (Or.inl ⟨by rfl, fun w hS => by obtain ⟨hs1, hs2⟩ := hS; go_simp⟩) hHeld ?_
  simp only [Act.put, List.setIfInBounds_toArray, List.set_cons_zero, List.set_cons_succ]
  refine wpAnyH_take (i := 10) (oi := ⟨some 31, Op.nilCheck (Operand.tmp 30), 0, _, _, none⟩) (v := .pointer (some ⟨q, 0, none⟩)) rfl (by kernel_rfl) (by kernel_rfl) (by kernel_rfl) (fun _ _ _ h => h) (Or.inl ⟨by rfl, fun w hS => by obtain ⟨hs1, hs2⟩ := hS; go_simp⟩) hHeld ?_
  simp only [Act.put, List.setIfInBounds_toArray, List.set_cons_zero, List.set_cons_succ]
  refine wpAnyH_take (i := 11) (oi := ⟨some 32, Op.fieldAddr 126 (Operand.tmp 31) 0, 0, _, _, none⟩) (v := .pointer (some ⟨q, 0, none⟩)) rfl (by kernel_rfl) (by kernel_rfl) (by kernel_rfl) (fun _ _ _ h => h) (Or.inl ⟨by rfl, fun w hS => by obtain ⟨hs1, hs2⟩ := hS; go_simp⟩) hHeld ?_
  simp only [Act.put, List.setIfInBounds_toArray, List.set_cons_zero, List.set_cons_succ]
  refine wpAnyH_take (i := 12) (oi := ⟨some 33, Op.load 29 (Operand.tmp 32), 29, _, _, none⟩) (v := .int .i64 why) rfl (by kernel_rfl) (by kernel_rfl) (by kernel_rfl) (fun _ _ _ h => h) (Or.inl ⟨by rfl, fun w hS => by obtain ⟨hs1, hs2⟩ := hS; go_simp⟩) hHeld ?_
  simp only [Act.put, List.setIfInBounds_toArray, List.set_cons_zero, List.set_cons_succ]
  refine wpAnyH_take (i := 13) (oi := ⟨some 34, Op.binOp BinOp.neq 29 (Operand.tmp 33) (Operand.const (Value.int IntKind.i64 0)) 29, 4, _, _, none⟩) (v := .bool true) rfl (by kernel_rfl) (by kernel_rfl) (by kernel_rfl) (fun _ _ _ h => h) (Or.inl ⟨by rfl, fun w hS => by obtain ⟨hs1, hs2⟩ := hS; go_simp⟩) hHeld ?_
  simp only [Act.put, List.setIfInBounds_toArray, List.set_cons_zero, List.set_cons_succ]
  refine wpAnyH_ready (rs := [14]) (by kernel_rfl) (by simp) ?_
  refine AllReadyH.cons (o := ⟨none, Op.store 41 (Operand.tmp 2) (Operand.tmp 29), 0, _, _, none⟩) rfl (fun K hK => ?_) AllReadyH.nil
  rw [if_pos (by rfl)]
  refine wp_store_row 41 (.tmp 2) (.tmp 29) rfl w.heap.size (erA why (a : Int)) rfl rfl 41 (erA 0 0) HZ.out.drew (Try.size41B _ _) (erA_sizes _ _ _ _) (erA_one _ _) ?_
  refine hK.out _ _ (HS.out _ (HQ1.out.drew.setRow_ne (blk_ne HQ1.out HZ.out (by decide)) _)) fun hH2 => ?_
  clear hK
  simp only [Act.put, List.setIfInBounds_toArray, List.set_cons_zero, List.set_cons_succ]
  refine wpAnyH_take (i := 15) (oi := ⟨some 3, Op.assign (Operand.tmp 34), 4, _, _, none⟩) (v := .bool true) rfl (by kernel_rfl) (by kernel_rfl) (by kernel_rfl) (fun _ _ _ h => h) (Or.inl ⟨by rfl, fun w hS => by obtain ⟨hs1, hs2⟩ := hS; go_simp⟩) hH2 ?_
  simp only [Act.put, List.setIfInBounds_toArray, List.set_cons_zero, List.set_cons_succ]
  refine wpAnyH_done (by kernel_rfl) ?_ _
  refine hK7 _ _ ?_
  refine wp_ret ?_
  try simp only [Exit.then]
  refine bodyPost_ret (v := .tuple #[.agg (erA why (a : Int)), .bool true]) (results_cell_row2 Try.results45 _ _ w.heap.size 41 _ (0, 0) _ _ rfl rfl (HZ.out.drew.setRow _) Try.underlying41 rfl (Try.size41B _ _)) rfl ?_
  exact ⟨rfl, below_setRow HB.out.drew (Nat.le_refl _) _⟩
set_option maxRecDepth 8000 in
theorem told_errno (w : World) : Calls Try.prog 15 #[.iface 29 (.int .i64 4)] w fun e w' => e = .returned (.tuple #[.agg (erA 4 (-1)), .bool true]) ∧ Below w.heap.size w w' := by
  have has := assertN2
  go_enter Try.func15, Try.ntmps15
  refine wp_seq_k fun K1 hK1 => ?_
  refine wp_region_list (WL.out ?_)
  refine WL.new (by kernel_rfl) 41 rfl _ Try.new41E ?_
  have HZ := Keep.mk (Blk.new w 41 (erA 0 0))
  have HB := Keep.mk (below_new w (.cells (erA 0 0) 41))
  generalize w.alloc (.cells (erA 0 0) 41) = w1 at *
  simp only [Act.put, List.setIfInBounds_toArray, List.set_cons_zero, List.set_cons_succ]
  refine WL.val (by kernel_rfl) (.bool false) (by go_simp) ?_
  simp only [Act.put, List.setIfInBounds_toArray, List.set_cons_zero, List.set_cons_succ]
  refine WL.nil ?_
  refine hK1 _ _ ?_
  refine wp_seq_k fun K2 hK2 => ?_
  refine wp_region_list (WL.out ?_)
  refine WL.val (by kernel_rfl) (.iface 29 (.int .i64 4)) (by go_simp) ?_
  simp only [Act.put, List.setIfInBounds_toArray, List.set_cons_zero, List.set_cons_succ]
  refine WL.val (by kernel_rfl) (.tuple #[.int .i64 4, .bool true]) (by go_simp) ?_
  simp only [Act.put, List.setIfInBounds_toArray, List.set_cons_zero, List.set_cons_succ]
  refine WL.val (by kernel_rfl) (.tuple #[.int .i64 4, .bool true]) (by go_simp) ?_
  simp only [Act.put, List.setIfInBounds_toArray, List.set_cons_zero, List.set_cons_succ]
  refine WL.val (by kernel_rfl) (.int .i64 4) (by go_simp) ?_
  simp only [Act.put, List.setIfInBounds_toArray, List.set_cons_zero, List.set_cons_succ]
  refine WL.val (by kernel_rfl) (.bool true) (by go_simp) ?_
  simp only [Act.put, List.setIfInBounds_toArray, List.set_cons_zero, List.set_cons_succ]
  refine WL.val (by kernel_rfl) (.int .i64 4) (by go_simp) ?_
  simp only [Act.put, List.setIfInBounds_toArray, List.set_cons_zero, List.set_cons_succ]
  refine WL.val (by kernel_rfl) (.bool true) (by go_simp) ?_
  simp only [Act.put, List.setIfInBounds_toArray, List.set_cons_zero, List.set_cons_succ]
  refine WL.nil ?_
  refine hK2 _ _ ?_
  refine wp_seq_k fun K3 hK3 => ?_
  refine wp_seq_k fun K4 hK4 => ?_
  refine wp_region_list (WL.out ?_)
  refine WL.val (by kernel_rfl) (.bool true) (by go_simp) ?_
  simp only [Act.put, List.setIfInBounds_toArray, List.set_cons_zero, List.set_cons_succ]
  refine WL.nil ?_
  refine hK4 _ _ ?_
  refine wp_cond_true rfl ?_
  refine wp_seq_k fun K5 hK5 => ?_
  refine wp_region_list (WL.out ?_)
  refine WL.val (by kernel_rfl) (.int .i64 4) (by go_simp) ?_
  simp only [Act.put, List.setIfInBounds_toArray, List.set_cons_zero, List.set_cons_succ]
  refine WL.bld (by kernel_rfl) 41 _ rfl [(0, .int .i64 4), (1, .int .i64 (-1))] (by simp [Act.eval]) _ (er_built2 4 (-1)) ?_
  simp only [Act.put, List.setIfInBounds_toArray, List.set_cons_zero, List.set_cons_succ]
  refine WL.val (by kernel_rfl) (.int .i64 4) (by go_simp) ?_
  simp only [Act.put, List.setIfInBounds_toArray, List.set_cons_zero, List.set_cons_succ]
  refine WL.val (by kernel_rfl) (.bool true) (by go_simp) ?_
  simp only [Act.put, List.setIfInBounds_toArray, List.set_cons_zero, List.set_cons_succ]
  refine WL.storeR (by kernel_rfl) 41 (.tmp 2) (.tmp 15) rfl w.heap.size (erA 4 (-1)) rfl rfl 41 (erA 0 0) HZ.out (Try.size41B _ _) (erA_sizes _ _ _ _) (erA_one _ _) ?_
  simp only [Act.put]
  refine WL.val (by kernel_rfl) (.bool true) (by go_simp) ?_
  simp only [Act.put, List.setIfInBounds_toArray, List.set_cons_zero, List.set_cons_succ]
  refine WL.nil ?_
  refine hK5 _ _ ?_
  refine wp_ret ?_
  try simp only [Exit.then]
  refine bodyPost_ret (v := .tuple #[.agg (erA 4 (-1)), .bool true]) (results_cell_row2 Try.results15 _ _ w.heap.size 41 _ (0, 0) _ _ rfl rfl (HZ.out.setRow _) Try.underlying41 rfl (Try.size41B _ _)) rfl ?_
  exact ⟨rfl, below_setRow HB.out (Nat.le_refl _) _⟩
set_option maxRecDepth 8000 in
theorem told_nil (w : World) : Calls Try.prog 15 #[.nilIface] w fun e w' => e = .returned (.tuple #[.agg (erA 0 0), .bool true]) ∧ Below w.heap.size w w' := by
  have has := assertN0
  go_enter Try.func15, Try.ntmps15
  refine wp_seq_k fun K1 hK1 => ?_
  refine wp_region_list (WL.out ?_)
  refine WL.new (by kernel_rfl) 41 rfl _ Try.new41E ?_
  have HZ := Keep.mk (Blk.new w 41 (erA 0 0))
  have HB := Keep.mk (below_new w (.cells (erA 0 0) 41))
  generalize w.alloc (.cells (erA 0 0) 41) = w1 at *
  simp only [Act.put, List.setIfInBounds_toArray, List.set_cons_zero, List.set_cons_succ]
  refine WL.val (by kernel_rfl) (.bool false) (by go_simp) ?_
  simp only [Act.put, List.setIfInBounds_toArray, List.set_cons_zero, List.set_cons_succ]
  refine WL.nil ?_
  refine hK1 _ _ ?_
  refine wp_seq_k fun K2 hK2 => ?_
  refine wp_region_list (WL.out ?_)
  refine WL.val (by kernel_rfl) (.nilIface) (by go_simp) ?_
  simp only [Act.put, List.setIfInBounds_toArray, List.set_cons_zero, List.set_cons_succ]
  refine WL.val (by kernel_rfl) (.tuple #[.int .i64 0, .bool false]) (by go_simp) ?_
  simp only [Act.put, List.setIfInBounds_toArray, List.set_cons_zero, List.set_cons_succ]
  refine WL.val (by kernel_rfl) (.tuple #[.int .i64 0, .bool false]) (by go_simp) ?_
  simp only [Act.put, List.setIfInBounds_toArray, List.set_cons_zero, List.set_cons_succ]
  refine WL.val (by kernel_rfl) (.int .i64 0) (by go_simp) ?_
  simp only [Act.put, List.setIfInBounds_toArray, List.set_cons_zero, List.set_cons_succ]
  refine WL.val (by kernel_rfl) (.bool false) (by go_simp) ?_
  simp only [Act.put, List.setIfInBounds_toArray, List.set_cons_zero, List.set_cons_succ]
  refine WL.val (by kernel_rfl) (.int .i64 0) (by go_simp) ?_
  simp only [Act.put, List.setIfInBounds_toArray, List.set_cons_zero, List.set_cons_succ]
  refine WL.val (by kernel_rfl) (.bool false) (by go_simp) ?_
  simp only [Act.put, List.setIfInBounds_toArray, List.set_cons_zero, List.set_cons_succ]
  refine WL.nil ?_
  refine hK2 _ _ ?_
  refine wp_seq_k fun K3 hK3 => ?_
  refine wp_seq_k fun K4 hK4 => ?_
  refine wp_region_list (WL.out ?_)
  refine WL.val (by kernel_rfl) (.bool false) (by go_simp) ?_
  simp only [Act.put, List.setIfInBounds_toArray, List.set_cons_zero, List.set_cons_succ]
  refine WL.nil ?_
  refine hK4 _ _ ?_
  refine wp_cond_false rfl ?_
  refine wp_skip ?_
  refine hK3 _ _ ?_
  refine wp_seq_k fun K5 hK5 => ?_
  refine wp_region_list (WL.out ?_)
  refine WL.val (by kernel_rfl) (.nilIface) (by go_simp) ?_
  simp only [Act.put, List.setIfInBounds_toArray, List.set_cons_zero, List.set_cons_succ]
  refine WL.callF (by kernel_rfl) 45 _ _ rfl Try.in45 #[.nilIface] (by simp [Act.eval, err, ptr]) ?_
  refine (placed_nil w1).mono ?_
  rintro e w2 ⟨rfl, hb2⟩
  refine ⟨_, rfl, ?_⟩
  have HZ2 := Keep.mk (HZ.out.below hb2 HZ.out.lt)
  have B2 : Keep (Below w.heap.size w w2) := ⟨HB.out.trans (hb2.mono HB.out.size)⟩
  clear hb2
  simp only [Act.put, List.setIfInBounds_toArray, List.set_cons_zero, List.set_cons_succ]
  refine WL.val (by kernel_rfl) (.tuple #[.agg (erA 0 0), .bool true]) (by go_simp) ?_
  simp only [Act.put, List.setIfInBounds_toArray, List.set_cons_zero, List.set_cons_succ]
  refine WL.val (by kernel_rfl) (.agg (erA 0 0)) (by go_simp) ?_
  simp only [Act.put, List.setIfInBounds_toArray, List.set_cons_zero, List.set_cons_succ]
  refine WL.val (by kernel_rfl) (.bool true) (by go_simp) ?_
  simp only [Act.put, List.setIfInBounds_toArray, List.set_cons_zero, List.set_cons_succ]
  refine WL.new (by kernel_rfl) 41 rfl _ Try.new41E ?_
  have HY := Keep.mk (Blk.new w2 41 (erA 0 0))
  have HZ3 := Keep.mk (HZ2.out.alloc (.cells (erA 0 0) 41))
  have B3 : Keep (Below w.heap.size w (w2.alloc (.cells (erA 0 0) 41))) := ⟨B2.out.trans ((below_new w2 _).mono B2.out.size)⟩
  have Hne : Keep (w.heap.size < w2.heap.size) := ⟨HZ2.out.lt⟩
  generalize w2.alloc (.cells (erA 0 0) 41) = w3 at *
  generalize w2.heap.size = g2 at *
  simp only [Act.put, List.setIfInBounds_toArray, List.set_cons_zero, List.set_cons_succ]
  refine WL.storeR (by kernel_rfl) 41 (.tmp 6) (.tmp 21) rfl g2 (erA 0 0) rfl rfl 41 (erA 0 0) HY.out (Try.size41B _ _) (erA_sizes _ _ _ _) (erA_one _ _) ?_
  have HY4 := Keep.mk (HY.out.setRow (erA 0 0))
  have HZ4 := Keep.mk (HZ3.out.setRow_ne (b' := g2) (by have := Hne.out; omega) (erA 0 0))
  have B4 : Keep (Below w.heap.size w (w3.setRow g2 (erA 0 0))) := ⟨below_setRow B3.out (by have := Hne.out; omega) _⟩
  generalize w3.setRow g2 (erA 0 0) = w4 at *
  simp only [Act.put]
  refine WL.val (by kernel_rfl) (.bool true) (by go_simp) ?_
  simp only [Act.put, List.setIfInBounds_toArray, List.set_cons_zero, List.set_cons_succ]
  refine WL.nil ?_
  refine hK5 _ _ ?_
  refine wp_seq_k fun K6 hK6 => ?_
  refine wp_region_list (WL.out ?_)
  refine WL.row (by kernel_rfl) 41 (.tmp 6) rfl g2 rfl 41 (erA 0 0) _ HY4.out Try.underlying41 rfl (Try.size41B _ _) ?_
  simp only [Act.put, List.setIfInBounds_toArray, List.set_cons_zero, List.set_cons_succ]
  refine WL.val (by kernel_rfl) (.bool true) (by go_simp) ?_
  simp only [Act.put, List.setIfInBounds_toArray, List.set_cons_zero, List.set_cons_succ]
  refine WL.storeR (by kernel_rfl) 41 (.tmp 2) (.tmp 23) rfl w.heap.size (erA 0 0) rfl rfl 41 (erA 0 0) HZ4.out (Try.size41B _ _) (erA_sizes _ _ _ _) (erA_one _ _) ?_
  simp only [Act.put]
  refine WL.val (by kernel_rfl) (.bool true) (by go_simp) ?_
  simp only [Act.put, List.setIfInBounds_toArray, List.set_cons_zero, List.set_cons_succ]
  refine WL.nil ?_
  refine hK6 _ _ ?_
  refine wp_ret ?_
  try simp only [Exit.then]
  refine bodyPost_ret (v := .tuple #[.agg (erA 0 0), .bool true]) (results_cell_row2 Try.results15 _ _ w.heap.size 41 _ (0, 0) _ _ rfl rfl (HZ4.out.setRow _) Try.underlying41 rfl (Try.size41B _ _)) rfl ?_
  exact ⟨rfl, below_setRow B4.out (Nat.le_refl _) _⟩
set_option maxRecDepth 8000 in
theorem told_err (q : Nat) (why : Int) (a : Nat) (w : World) (hq : BadAt w q why a) (hw : why ≠ 0) : Calls Try.prog 15 #[err q] w fun e w' => e = .returned (.tuple #[.agg (erA why (a : Int)), .bool true]) ∧ Below w.heap.size w w' := by
  have HQ : Keep (Blk w q 126 #[.int .i64 why, .int .i64 (a : Int)]) := ⟨hq⟩
  have has := assertN1 (ptr q)
  have Hw := Keep.mk hw
  clear hq hw
  unfold err
  go_enter Try.func15, Try.ntmps15
  refine wp_seq_k fun K1 hK1 => ?_
  refine wp_region_list (WL.out ?_)
  refine WL.new (by kernel_rfl) 41 rfl _ Try.new41E ?_
  have HZ := Keep.mk (Blk.new w 41 (erA 0 0))
  have HB := Keep.mk (below_new w (.cells (erA 0 0) 41))
  have HQ1 := Keep.mk (HQ.out.alloc (.cells (erA 0 0) 41))
  generalize w.alloc (.cells (erA 0 0) 41) = w1 at *
  simp only [Act.put, List.setIfInBounds_toArray, List.set_cons_zero, List.set_cons_succ]
  refine WL.val (by kernel_rfl) (.bool false) (by go_simp) ?_
  simp only [Act.put, List.setIfInBounds_toArray, List.set_cons_zero, List.set_cons_succ]
  refine WL.nil ?_
  refine hK1 _ _ ?_
  refine wp_seq_k fun K2 hK2 => ?_
  refine wp_region_list (WL.out ?_)
  refine WL.val (by kernel_rfl) (.iface 116 (ptr q)) (by go_simp) ?_
  simp only [Act.put, List.setIfInBounds_toArray, List.set_cons_zero, List.set_cons_succ]
  refine WL.val (by kernel_rfl) (.tuple #[.int .i64 0, .bool false]) (by go_simp) ?_
  simp only [Act.put, List.setIfInBounds_toArray, List.set_cons_zero, List.set_cons_succ]
  refine WL.val (by kernel_rfl) (.tuple #[.int .i64 0, .bool false]) (by go_simp) ?_
  simp only [Act.put, List.setIfInBounds_toArray, List.set_cons_zero, List.set_cons_succ]
  refine WL.val (by kernel_rfl) (.int .i64 0) (by go_simp) ?_
  simp only [Act.put, List.setIfInBounds_toArray, List.set_cons_zero, List.set_cons_succ]
  refine WL.val (by kernel_rfl) (.bool false) (by go_simp) ?_
  simp only [Act.put, List.setIfInBounds_toArray, List.set_cons_zero, List.set_cons_succ]
  refine WL.val (by kernel_rfl) (.int .i64 0) (by go_simp) ?_
  simp only [Act.put, List.setIfInBounds_toArray, List.set_cons_zero, List.set_cons_succ]
  refine WL.val (by kernel_rfl) (.bool false) (by go_simp) ?_
  simp only [Act.put, List.setIfInBounds_toArray, List.set_cons_zero, List.set_cons_succ]
  refine WL.nil ?_
  refine hK2 _ _ ?_
  refine wp_seq_k fun K3 hK3 => ?_
  refine wp_seq_k fun K4 hK4 => ?_
  refine wp_region_list (WL.out ?_)
  refine WL.val (by kernel_rfl) (.bool false) (by go_simp) ?_
  simp only [Act.put, List.setIfInBounds_toArray, List.set_cons_zero, List.set_cons_succ]
  refine WL.nil ?_
  refine hK4 _ _ ?_
  refine wp_cond_false rfl ?_
  refine wp_skip ?_
  refine hK3 _ _ ?_
  refine wp_seq_k fun K5 hK5 => ?_
  refine wp_region_list (WL.out ?_)
  refine WL.val (by kernel_rfl) (.iface 116 (ptr q)) (by go_simp) ?_
  simp only [Act.put, List.setIfInBounds_toArray, List.set_cons_zero, List.set_cons_succ]
  refine WL.callF (by kernel_rfl) 45 _ _ rfl Try.in45 #[err q] (by simp [Act.eval, err, ptr]) ?_
  refine (placed_err q why a w1 HQ1.out Hw.out).mono ?_
  rintro e w2 ⟨rfl, hb2⟩
  refine ⟨_, rfl, ?_⟩
  have HZ2 := Keep.mk (HZ.out.below hb2 HZ.out.lt)
  have B2 : Keep (Below w.heap.size w w2) := ⟨HB.out.trans (hb2.mono HB.out.size)⟩
  clear hb2
  simp only [Act.put, List.setIfInBounds_toArray, List.set_cons_zero, List.set_cons_succ]
  refine WL.val (by kernel_rfl) (.tuple #[.agg (erA why (a : Int)), .bool true]) (by go_simp) ?_
  simp only [Act.put, List.setIfInBounds_toArray, List.set_cons_zero, List.set_cons_succ]
  refine WL.val (by kernel_rfl) (.agg (erA why (a : Int))) (by go_simp) ?_
  simp only [Act.put, List.setIfInBounds_toArray, List.set_cons_zero, List.set_cons_succ]
  refine WL.val (by kernel_rfl) (.bool true) (by go_simp) ?_
  simp only [Act.put, List.setIfInBounds_toArray, List.set_cons_zero, List.set_cons_succ]
  refine WL.new (by kernel_rfl) 41 rfl _ Try.new41E ?_
  have HY := Keep.mk (Blk.new w2 41 (erA 0 0))
  have HZ3 := Keep.mk (HZ2.out.alloc (.cells (erA 0 0) 41))
  have B3 : Keep (Below w.heap.size w (w2.alloc (.cells (erA 0 0) 41))) := ⟨B2.out.trans ((below_new w2 _).mono B2.out.size)⟩
  have Hne : Keep (w.heap.size < w2.heap.size) := ⟨HZ2.out.lt⟩
  generalize w2.alloc (.cells (erA 0 0) 41) = w3 at *
  generalize w2.heap.size = g2 at *
  simp only [Act.put, List.setIfInBounds_toArray, List.set_cons_zero, List.set_cons_succ]
  refine WL.storeR (by kernel_rfl) 41 (.tmp 6) (.tmp 21) rfl g2 (erA why (a : Int)) rfl rfl 41 (erA 0 0) HY.out (Try.size41B _ _) (erA_sizes _ _ _ _) (erA_one _ _) ?_
  have HY4 := Keep.mk (HY.out.setRow (erA why (a : Int)))
  have HZ4 := Keep.mk (HZ3.out.setRow_ne (b' := g2) (by have := Hne.out; omega) (erA why (a : Int)))
  have B4 : Keep (Below w.heap.size w (w3.setRow g2 (erA why (a : Int)))) := ⟨below_setRow B3.out (by have := Hne.out; omega) _⟩
  generalize w3.setRow g2 (erA why (a : Int)) = w4 at *
  simp only [Act.put]
  refine WL.val (by kernel_rfl) (.bool true) (by go_simp) ?_
  simp only [Act.put, List.setIfInBounds_toArray, List.set_cons_zero, List.set_cons_succ]
  refine WL.nil ?_
  refine hK5 _ _ ?_
  refine wp_seq_k fun K6 hK6 => ?_
  refine wp_region_list (WL.out ?_)
  refine WL.row (by kernel_rfl) 41 (.tmp 6) rfl g2 rfl 41 (erA why (a : Int)) _ HY4.out Try.underlying41 rfl (Try.size41B _ _) ?_
  simp only [Act.put, List.setIfInBounds_toArray, List.set_cons_zero, List.set_cons_succ]
  refine WL.val (by kernel_rfl) (.bool true) (by go_simp) ?_
  simp only [Act.put, List.setIfInBounds_toArray, List.set_cons_zero, List.set_cons_succ]
  refine WL.storeR (by kernel_rfl) 41 (.tmp 2) (.tmp 23) rfl w.heap.size (erA why (a : Int)) rfl rfl 41 (erA 0 0) HZ4.out (Try.size41B _ _) (erA_sizes _ _ _ _) (erA_one _ _) ?_
  simp only [Act.put]
  refine WL.val (by kernel_rfl) (.bool true) (by go_simp) ?_
  simp only [Act.put, List.setIfInBounds_toArray, List.set_cons_zero, List.set_cons_succ]
  refine WL.nil ?_
  refine hK6 _ _ ?_
  refine wp_ret ?_
  try simp only [Exit.then]
  refine bodyPost_ret (v := .tuple #[.agg (erA why (a : Int)), .bool true]) (results_cell_row2 Try.results15 _ _ w.heap.size 41 _ (0, 0) _ _ rfl rfl (HZ4.out.setRow _) Try.underlying41 rfl (Try.size41B _ _)) rfl ?_
  exact ⟨rfl, below_setRow B4.out (Nat.le_refl _) _⟩
theorem run_appW_cells (w : World) (ty : TypeId) (v : Value) (l : List Int) (hown : Own w v l) (a : Addr) (c : Nat) (m : List Int) (hnews : ∀ j u, (bv m)[j]? = some u → w.cell? (a.add j) = some u) (hb : l.length + m.length ≤ 200000000000000) :
    ∃ v' w', (Builtin.append_ #[25, 25] ty #[v, .slice (some a) m.length c]).run Try.prog w = .ok v' w' ∧ AppPost w v (l ++ m) v' w' := by
  obtain ⟨i, hi, hzz⟩ := Option.map_eq_some_iff.1 Try.info5
  simp only [Prod.mk.injEq] at hzz
  obtain ⟨hz, hsz, hby⟩ := hzz
  have h63 : l.length + m.length ≤ maxLen := by unfold maxLen; omega
  have hlm : (bv m).length = m.length * i.size := by rw [bv_len, hsz]; omega
  obtain ⟨v', w', hr, h1, h2, h3⟩ := run_append_own_wide (P := Try.prog) w 0 25 ty 5 i (.int .u8 0) 1 1 Try.underlying25 hi hz hsz hby rfl (by omega) v l.length (bv l) hown a m.length c (bv m) (by rw [bv_len]; omega) hnews (bv_one m) h63 (by omega) (Nat.zero_le _)
  have hO : Own w' v' (l ++ m) := by unfold Own; rw [List.length_append, bv_app]; exact h1
  refine ⟨v', w', hr, hO, ?_⟩
  rcases hown.form with ⟨rfl, rfl⟩ | ⟨g, cap, cur, rfl, hg, hnc, hcm, hcs, htake⟩
  · by_cases hm : m.length = 0
    · have e := h3.2 ⟨rfl, hm⟩
      subst e
      exact .inl ⟨rfl, Grown.of h2 fun k _ e => by simp [Value.ownBlock] at e⟩
    · have hr2 := run_append_nil (P := Try.prog) w 25 ty 5 i (.int .u8 0) Try.underlying25 hi hz a m.length c (bv m) hlm hnews (by omega) (by omega) (by rw [hby]; omega)
      have e := hr.symm.trans hr2
      injection e with e1 e2
      subst e1 e2
      exact .inr ⟨rfl, ⟨rfl, rfl, rfl, by simp, fun k hk => Below.heap_alloc w.drew _ k hk⟩⟩
  · by_cases hroom : l.length + m.length ≤ cap
    · have hr2 := run_append_room (P := Try.prog) w 25 ty 5 i Try.underlying25 hi g l.length cap cur hg a m.length c (bv m) hlm hnews (bv_one m) hroom (by rw [hsz, bv_len, hcs]; omega)
      have e := hr.symm.trans hr2
      injection e with e1 e2
      subst e1
      exact .inl ⟨rfl, Grown.of h2 fun k _ e => e⟩
    · have holds : ∀ j u, (bv l)[j]? = some u → w.cell? ((⟨g, 0, none⟩ : Addr).add j) = some u := World.ownsRow.cells (g := g) hown rfl
      have hr2 := run_append_grow (P := Try.prog) w 25 ty 5 i (.int .u8 0) Try.underlying25 hi hz ⟨g, 0, none⟩ l.length cap (bv l) (by rw [bv_len, hsz]; omega) holds a m.length c (bv m) hlm hnews (by omega) (by omega) (by rw [hby]; exact growslice_fits_wide (by omega) (by omega))
      have e := hr.symm.trans hr2
      injection e with e1 e2
      subst e1 e2
      exact .inr ⟨rfl, ⟨rfl, rfl, rfl, by simp, fun k hk => Below.heap_alloc w.drew _ k hk⟩⟩
theorem run_appW_row (w : World) (ty : TypeId) (v vx : Value) (l m : List Int) (hown : Own w v l) (hrow : RowAt w vx m) (hb : l.length + m.length ≤ 200000000000000) :
    ∃ v' w', (Builtin.append_ #[25, 25] ty #[v, vx]).run Try.prog w = .ok v' w' ∧ AppPost w v (l ++ m) v' w' := by
  rcases hrow with ⟨rfl, rfl⟩ | ⟨ad, c, rfl, rfl⟩ | ⟨b, off, cap, rfl, hcap, hc⟩
  · obtain ⟨i, hi, _⟩ := Option.map_eq_some_iff.1 Try.info5
    have hrun := run_append_owned_none (P := Try.prog) (w := w) 0 25 ty 5 i 1 Try.underlying25 hi v l.length (bv l) hown
    exact ⟨v, w, hrun, by simpa using hown, .inl ⟨rfl, Grown.refl _ _⟩⟩
  · exact run_appW_cells w ty v l hown ad c [] (fun j u hu => by simp [bv] at hu) hb
  · refine run_appW_cells w ty v l hown ⟨b, off, none⟩ cap m (fun j u hu => ?_) hb
    have hj : j < m.length := by have := (List.getElem?_eq_some_iff.1 hu).1; rwa [bv_len] at this
    rw [bv_get m j hj] at hu
    rw [Addr.add_mid, hc j hj]; exact hu
theorem WL.appW {ops : Array Oper} {rest : List Oper} {o : Oper} {a : Act} {w : World} {Q : Exit → Act → World → Prop} (hw : Region.wanted o (yielded ops a.tmps) = true) (s x : Operand)
    (ho : o.op = .call { callee := .builtin .append, args := #[s, x], argTypes := #[25, 25] }) (v vx : Value) (l m : List Int)
    (hs : a.eval s = v) (hx : a.eval x = vx) (hown : Own w v l) (hrow : RowAt w vx m) (hb : l.length + m.length ≤ 200000000000000)
    (h : ∀ v' w', AppPost w v (l ++ m) v' w' → WL Try.prog ops Q rest (a.put o.dst v') w') : WL Try.prog ops Q (o :: rest) a w :=
  ⟨wpList_wanted hw fun K hK => by
    obtain ⟨v', w', hr, h2⟩ := run_appW_row w o.type v vx l m hown hrow hb
    unfold Oper.wp execOp
    simp only [ho, resolve, invoke, builtin, Sem.run_bind, Sem.run_pure, Result.andThen_ok, List.map_toArray, List.map_cons, List.map_nil, hs, hx, hr]
    exact hK _ _ (h v' w' h2).out⟩
theorem row_take {w : World} {g n c : Nat} {l : List Int} (h : RowAt w (.slice (some ⟨g, 0, none⟩) n c) l) (hc : n ≤ c) (t : Nat) (ht : t ≤ l.length) : RowAt w (.slice (some ⟨g, 0, none⟩) t c) (l.take t) := by
  by_cases h0 : l.length = 0
  · have : l = [] := List.eq_nil_of_length_eq_zero h0
    subst this
    obtain rfl : t = 0 := by simpa using ht
    exact .inr (.inl ⟨_, _, rfl, rfl⟩)
  · rcases h with ⟨h1, rfl⟩ | ⟨a', c', h1, rfl⟩ | ⟨b, off, cap, h1, h2, h3⟩
    · simp at h0
    · simp at h0
    · injection h1 with h1 h4 h5
      injection h1 with h1
      injection h1 with e1 e2 _
      subst e1 e2 h4 h5
      refine .inr (.inr ⟨g, 0, c, by rw [List.length_take, Nat.min_eq_left ht], by rw [List.length_take]; omega, fun i hi => ?_⟩)
      rw [List.length_take] at hi
      rw [h3 i (by omega), List.getD_eq_getElem?_getD, List.getD_eq_getElem?_getD, List.getElem?_take, if_pos (by omega)]
theorem enc_byts {M : MsgV} (hc : chkM M = 0) (hok : MsOk M) : Byts (encM M) := by
  obtain ⟨h1, h2, h3, h4, h5, h6, h7, h8, h9, h10, h11⟩ := chk_facts hc
  have hh : ∀ l : List Hs, l.length ≤ 4096 → Byts (hsL l) := fun l hl => (numL_byts _ (by omega)).app (flat_byts hB l fun x _ => hB_byts x)
  have hr := (okR_iff M.bk).1 h10
  refine Byts.app (fun c hcc => by have := k_rng (Y := M) h1; simp at hcc; rw [hcc]; exact this) (flat_byts _ _ fun i hi => ?_)
  rcases five (hasI_lt _ i hi) with rfl | rfl | rfl | rfl | rfl
  · exact hh _ h3
  · intro c hcc
    simp [putF, saltP] at hcc
    obtain ⟨t, _, rfl⟩ := hcc
    omega
  · exact (numL_byts _ (by have := hok.bl; omega)).app hok.blB
  · exact hh _ h4
  · refine (numL_byts _ (by omega)).app (flat_byts _ _ fun r hrr => ?_)
    have : r.length ≤ 140737488355328 := by
      obtain ⟨j, hj, rfl⟩ := List.getElem_of_mem hrr
      have := hok.rows j hj
      rwa [List.getD_eq_getElem?_getD, List.getElem?_eq_getElem hj] at this
    exact (numL_byts _ (by omega)).app (hok.bkB r hrr)
theorem Try.in7 (w : World) (vs : Array Value) : (callFunc 7 vs).run Try.prog w = .ok (.enter 7 vs) w := by kernel_rfl
theorem run_eqlE (a b : Int) (w : World) : (binOp .eql 41 (.agg (erA a b)) (.agg (erA a b))).run Try.prog w = .ok (.bool true) w := by
  unfold erA
  go_simp
set_option maxRecDepth 8000 in
set_option maxHeartbeats 4000000 in
theorem back_any (M : MsgV) (c : MC) (v2 v3 : Value) (mz : Nat) (Kz : Nat → Int) (N : List Int) (w : World) (hA : MsAt w M c) (hO : MsOk M) (hZ : IntsAt w v2 mz Kz) (hzn : mz ≤ 140737488355328) (hR : RowAt w v3 N) (hNb : Byts N) (hNl : N.length ≤ 140737488351232) :
    Calls Try.prog 7 #[.agg (msA c), v2, v3] w fun e w' => e = .returned (.bool true) ∧ Below w.heap.size w w' := by
  obtain ⟨ca, cc, rfl⟩ := hZ.sl
  obtain ⟨ma, mc, rfl⟩ := row_form hR
  have HA := Keep.mk hA
  have HO := Keep.mk hO
  have HZ := Keep.mk hZ
  have HZn := Keep.mk hzn
  have HR := Keep.mk hR
  have HNb := Keep.mk hNb
  have HNl := Keep.mk hNl
  have hzi : (mz : Int) ≤ 9223372036854775807 := by omega
  clear hA hO hZ hzn hR hNb hNl
  go_enter Try.func7, Try.ntmps7
  refine wp_seq_k fun K1 hK1 => ?_
  refine wp_region_list (WL.out ?_)
  refine WL.box (by kernel_rfl) 28 (.tmp 0) rfl _ rfl ?_
  have HX1 := Keep.mk (Blk.new w 28 (msA c))
  have B1 := Keep.mk (below_new w (.cells (msA c) 28))
  have HA1 := Keep.mk (HA.out.below (below_new w (.cells (msA c) 28)))
  generalize w.alloc (.cells (msA c) 28) = w1 at *
  obtain ⟨g, hg⟩ : ∃ g, g = w.heap.size := ⟨_, rfl⟩
  rw [← hg] at HX1 ⊢
  clear hg
  simp only [Act.put, List.setIfInBounds_toArray, List.set_cons_zero, List.set_cons_succ]
  refine WL.val (by kernel_rfl) (.bool false) (by go_simp) ?_
  simp only [Act.put, List.setIfInBounds_toArray, List.set_cons_zero, List.set_cons_succ]
  refine WL.nil ?_
  refine hK1 _ _ ?_
  refine wp_seq_k fun K2 hK2 => ?_
  refine wp_region_list (WL.out ?_)
  refine WL.row (by kernel_rfl) 28 (.tmp 3) rfl g rfl 28 (msA c) _ HX1.out Try.underlying28 rfl (Try.size28B _) ?_
  simp only [Act.put, List.setIfInBounds_toArray, List.set_cons_zero, List.set_cons_succ]
  refine WL.callF (by kernel_rfl) 11 _ _ rfl Try.in11 #[.agg (msA c)] (by simp [Act.eval]) ?_
  refine (encode_any M c w1 HA1.out HO.out).mono ?_
  rintro e w2 ⟨v, rfl, hv, hb2⟩
  refine ⟨_, rfl, ?_⟩
  have HX2 := Keep.mk (HX1.out.below hb2 HX1.out.lt)
  have HA2 := Keep.mk (HA1.out.below hb2)
  have B2 : Keep (Below w.heap.size w w2) := ⟨B1.out.trans (hb2.mono B1.out.size)⟩
  clear hb2
  by_cases hch : chkM M = 0
  · have Hch := Keep.mk hch
    obtain ⟨ga, hga, hrw⟩ : ∃ g, v = .slice (some ⟨g, 0, none⟩) (encM M).length (encM M).length ∧ RowAt w2 v (encM M) := by
      rcases hv with h | h
      · exact fresh_row h.2
      · exact absurd hch h.1
    subst hga
    rw [hch]
    have hby := enc_byts hch HO.out
    have hmx := enc_max hch
    have hpos : 0 < (encM M).length := by rw [encM]; simp
    have hDt := fun more => decM_there hch HO.out.s more
    have hDs := fun D m => decM_short (D := D) (m := m) hch HO.out.s
    obtain ⟨L, hL⟩ : ∃ L, L = encM M := ⟨_, rfl⟩
    rw [← hL] at hrw hby hmx hpos hDt hDs ⊢
    have HL2 := Keep.mk hrw
    have HBy := Keep.mk hby
    have HDt := Keep.mk hDt
    have HDs := Keep.mk hDs
    clear hrw hby hDt hDs hL hv hch
    have hLi : (L.length : Int) ≤ 9223372036854775807 := by omega
    simp only [Act.put, List.setIfInBounds_toArray, List.set_cons_zero, List.set_cons_succ]
    refine WL.val (by kernel_rfl) (.tuple #[.slice (some ⟨ga, 0, none⟩) L.length L.length, .int .i64 0]) (by go_simp) ?_
    simp only [Act.put, List.setIfInBounds_toArray, List.set_cons_zero, List.set_cons_succ]
    refine WL.val (by kernel_rfl) (.slice (some ⟨ga, 0, none⟩) L.length L.length) (by go_simp) ?_
    simp only [Act.put, List.setIfInBounds_toArray, List.set_cons_zero, List.set_cons_succ]
    refine WL.val (by kernel_rfl) (.int .i64 0) (by go_simp) ?_
    simp only [Act.put, List.setIfInBounds_toArray, List.set_cons_zero, List.set_cons_succ]
    refine WL.val (by kernel_rfl) (.slice (some ⟨ga, 0, none⟩) L.length L.length) (by go_simp) ?_
    simp only [Act.put, List.setIfInBounds_toArray, List.set_cons_zero, List.set_cons_succ]
    refine WL.val (by kernel_rfl) (.int .i64 0) (by go_simp) ?_
    simp only [Act.put, List.setIfInBounds_toArray, List.set_cons_zero, List.set_cons_succ]
    refine WL.nil ?_
    refine hK2 _ _ ?_
    refine wp_seq_k fun K3 hK3 => ?_
    refine wp_seq_k fun K4 hK4 => ?_
    refine wp_region_list (WL.out ?_)
    refine WL.val (by kernel_rfl) (.int .i64 0) (by go_simp) ?_
    simp only [Act.put, List.setIfInBounds_toArray, List.set_cons_zero, List.set_cons_succ]
    refine WL.val (by kernel_rfl) (.bool false) (by go_simp) ?_
    simp only [Act.put, List.setIfInBounds_toArray, List.set_cons_zero, List.set_cons_succ]
    refine WL.nil ?_
    refine hK4 _ _ ?_
    refine wp_cond_false rfl ?_
    refine wp_skip ?_
    refine hK3 _ _ ?_
    refine wp_seq_k fun K5 hK5 => ?_
    refine wp_region_list (WL.out ?_)
    refine WL.val (by kernel_rfl) (.slice (some ⟨ga, 0, none⟩) L.length L.length) (by go_simp) ?_
    simp only [Act.put, List.setIfInBounds_toArray, List.set_cons_zero, List.set_cons_succ]
    refine WL.callF (by kernel_rfl) 13 _ _ rfl Try.in13 #[.slice (some ⟨ga, 0, none⟩) L.length L.length] (by simp [Act.eval]) ?_
    refine (decode_any _ L w2 HL2.out HBy.out (by omega)).mono ?_
    rintro e w3 ⟨hb3, h1⟩
    have hdec := HDt.out []
    rw [List.append_nil, if_pos rfl] at hdec
    rw [hdec] at h1
    obtain ⟨cm, rfl, hD⟩ : ∃ c, e = .returned (.tuple #[.agg (msA c), .nilIface]) ∧ DecAt w2.heap.size w3 M c := by
      rcases h1 with h | h | h
      · exfalso; have := h.1; omega
      · exact h.2.2
      · exact absurd rfl h.2.1
    refine ⟨_, rfl, ?_⟩
    have HD3 := Keep.mk hD.ms
    have Bz3 := Keep.mk hb3
    have HX3 := Keep.mk (HX2.out.below hb3 HX2.out.lt)
    have HA3 := Keep.mk (HA2.out.below hb3)
    have HL3 := Keep.mk (HL2.out.below hb3)
    have B3 : Keep (Below w.heap.size w w3) := ⟨B2.out.trans (hb3.mono B2.out.size)⟩
    clear h1 hD hb3 hdec
    simp only [Act.put, List.setIfInBounds_toArray, List.set_cons_zero, List.set_cons_succ]
    refine WL.val (by kernel_rfl) (.tuple #[.agg (msA cm), .nilIface]) (by go_simp) ?_
    simp only [Act.put, List.setIfInBounds_toArray, List.set_cons_zero, List.set_cons_succ]
    refine WL.val (by kernel_rfl) (.agg (msA cm)) (by go_simp) ?_
    simp only [Act.put, List.setIfInBounds_toArray, List.set_cons_zero, List.set_cons_succ]
    refine WL.val (by kernel_rfl) (.nilIface) (by go_simp) ?_
    simp only [Act.put, List.setIfInBounds_toArray, List.set_cons_zero, List.set_cons_succ]
    refine WL.new (by kernel_rfl) 28 rfl _ Try.new28M ?_
    have HNg9 := Keep.mk (Blk.new w3 28 (msA zeroC))
    have BNg9 := Keep.mk (below_new w3 (.cells (msA zeroC) 28))
    generalize w3.alloc (.cells (msA zeroC) 28) = w4a at *
    have Hsg9 : Keep (w3.heap.size = w3.heap.size) := ⟨rfl⟩
    simp only [Act.put, List.setIfInBounds_toArray, List.set_cons_zero, List.set_cons_succ]
    refine WL.storeR (by kernel_rfl) 28 (.tmp 9) (.tmp 44) rfl w3.heap.size (msA cm) rfl rfl 28 (msA zeroC) HNg9.out (Try.size28B _) rfl (SlC.one HD3.out.sl) ?_
    have HMg9 := Keep.mk (HNg9.out.setRow (msA cm))
    have Bmg9 : Keep (Below w3.heap.size w3 (w4a.setRow w3.heap.size (msA cm))) := ⟨below_setRow BNg9.out (Nat.le_refl _) _⟩
    generalize w4a.setRow w3.heap.size (msA cm) = w4 at *
    generalize w3.heap.size = g9 at HMg9 ⊢
    clear HNg9 BNg9 Hsg9
    have HX4 := Keep.mk (HX3.out.below Bmg9.out HX3.out.lt)
    have HA4 := Keep.mk (HA3.out.below Bmg9.out)
    have HD4 := Keep.mk (HD3.out.below Bmg9.out)
    have HL4 := Keep.mk (HL3.out.below Bmg9.out)
    have B4 : Keep (Below w.heap.size w w4) := ⟨B3.out.trans (Bmg9.out.mono B3.out.size)⟩
    simp only [Act.put]
    refine WL.val (by kernel_rfl) (.nilIface) (by go_simp) ?_
    simp only [Act.put, List.setIfInBounds_toArray, List.set_cons_zero, List.set_cons_succ]
    refine WL.nil ?_
    refine hK5 _ _ ?_
    refine wp_seq_k fun K6 hK6 => ?_
    refine wp_seq_k fun K7 hK7 => ?_
    refine wp_region_list (WL.out ?_)
    refine WL.val (by kernel_rfl) (.nilIface) (by go_simp) ?_
    simp only [Act.put, List.setIfInBounds_toArray, List.set_cons_zero, List.set_cons_succ]
    refine WL.val (by kernel_rfl) (.bool false) (by go_simp) ?_
    simp only [Act.put, List.setIfInBounds_toArray, List.set_cons_zero, List.set_cons_succ]
    refine WL.val (by kernel_rfl) (.bool false) (by go_simp) ?_
    simp only [Act.put, List.setIfInBounds_toArray, List.set_cons_zero, List.set_cons_succ]
    refine WL.row (by kernel_rfl) 28 (.tmp 9) rfl g9 rfl 28 (msA cm) _ HMg9.out Try.underlying28 rfl (Try.size28B _) ?_
    simp only [Act.put, List.setIfInBounds_toArray, List.set_cons_zero, List.set_cons_succ]
    refine WL.row (by kernel_rfl) 28 (.tmp 3) rfl g rfl 28 (msA c) _ HX4.out Try.underlying28 rfl (Try.size28B _) ?_
    simp only [Act.put, List.setIfInBounds_toArray, List.set_cons_zero, List.set_cons_succ]
    refine WL.callF (by kernel_rfl) 16 _ _ rfl Try.in16 #[.agg (msA cm), .agg (msA c)] (by simp [Act.eval]) ?_
    refine (same_refl M HO.out cm c w4 HD4.out HA4.out).mono ?_
    rintro e w5 ⟨rfl, hb5⟩
    refine ⟨_, rfl, ?_⟩
    have HX5 := Keep.mk (HX4.out.below hb5 HX4.out.lt)
    have HA5 := Keep.mk (HA4.out.below hb5)
    have HL5 := Keep.mk (HL4.out.below hb5)
    have B5 : Keep (Below w.heap.size w w5) := ⟨B4.out.trans (hb5.mono B4.out.size)⟩
    clear hb5
    have hni : ¬ (2097152 : Int) < (L.length : Int) := by omega
    simp only [Act.put, List.setIfInBounds_toArray, List.set_cons_zero, List.set_cons_succ]
    refine WL.val (by kernel_rfl) (.bool false) (by go_simp) ?_
    simp only [Act.put, List.setIfInBounds_toArray, List.set_cons_zero, List.set_cons_succ]
    refine WL.val (by kernel_rfl) (.bool false) (by go_simp) ?_
    simp only [Act.put, List.setIfInBounds_toArray, List.set_cons_zero, List.set_cons_succ]
    refine WL.val (by kernel_rfl) (.bool false) (by go_simp) ?_
    simp only [Act.put, List.setIfInBounds_toArray, List.set_cons_zero, List.set_cons_succ]
    refine WL.val (by kernel_rfl) (.slice (some ⟨ga, 0, none⟩) L.length L.length) (by go_simp) ?_
    simp only [Act.put, List.setIfInBounds_toArray, List.set_cons_zero, List.set_cons_succ]
    refine WL.val (by kernel_rfl) (.int .i64 (L.length : Int)) (by go_simp) ?_
    simp only [Act.put, List.setIfInBounds_toArray, List.set_cons_zero, List.set_cons_succ]
    refine WL.val (by kernel_rfl) (.bool false) (by go_simp) ?_
    simp only [Act.put, List.setIfInBounds_toArray, List.set_cons_zero, List.set_cons_succ]
    refine WL.val (by kernel_rfl) (.bool false) (by go_simp) ?_
    simp only [Act.put, List.setIfInBounds_toArray, List.set_cons_zero, List.set_cons_succ]
    refine WL.val (by kernel_rfl) (.bool false) (by go_simp) ?_
    simp only [Act.put, List.setIfInBounds_toArray, List.set_cons_zero, List.set_cons_succ]
    refine WL.row (by kernel_rfl) 28 (.tmp 3) rfl g rfl 28 (msA c) _ HX5.out Try.underlying28 rfl (Try.size28B _) ?_
    simp only [Act.put, List.setIfInBounds_toArray, List.set_cons_zero, List.set_cons_succ]
    refine WL.callF (by kernel_rfl) 10 _ _ rfl Try.in10 #[.agg (msA c)] (by simp [Act.eval]) ?_
    refine (check_any M c w5 HA5.out HO.out).mono ?_
    rintro e w6 ⟨rfl, hb6⟩
    refine ⟨_, rfl, ?_⟩
    rw [Hch.out]
    have HL6 := Keep.mk (HL5.out.below hb6)
    have B6 : Keep (Below w.heap.size w w6) := ⟨B5.out.trans (hb6.mono B5.out.size)⟩
    clear hb6
    simp only [Act.put, List.setIfInBounds_toArray, List.set_cons_zero, List.set_cons_succ]
    refine WL.val (by kernel_rfl) (.bool false) (by go_simp) ?_
    simp only [Act.put, List.setIfInBounds_toArray, List.set_cons_zero, List.set_cons_succ]
    refine WL.val (by kernel_rfl) (.bool false) (by go_simp) ?_
    simp only [Act.put, List.setIfInBounds_toArray, List.set_cons_zero, List.set_cons_succ]
    refine WL.nil ?_
    refine hK7 _ _ ?_
    refine wp_cond_false rfl ?_
    refine wp_skip ?_
    refine hK6 _ _ ?_
    refine wp_seq_k fun K8 hK8 => ?_
    refine wp_seq_k fun K9 hK9 => ?_
    refine wp_region_list (WL.out ?_)
    refine WL.val (by kernel_rfl) (.int .i64 0) (by go_simp) ?_
    simp only [Act.put, List.setIfInBounds_toArray, List.set_cons_zero, List.set_cons_succ]
    refine WL.nil ?_
    refine hK9 _ _ ?_
    refine wp_block ?_
    refine wp_loop (fun ac wr => ∃ (t : Nat) (f : Nat → Value), ac = { tmps := #[.agg (msA c), .slice ca mz cc, .slice ma N.length mc, .pointer (some ⟨g, 0, none⟩), undef, undef, f 6, .slice (some ⟨ga, 0, none⟩) L.length L.length, .int .i64 0, .pointer (some ⟨g9, 0, none⟩), .nilIface, .int .i64 (t : Int), f 12, f 13, f 14, f 15, f 16, undef, undef, undef, undef, undef, .tuple #[.slice (some ⟨ga, 0, none⟩) L.length L.length, .int .i64 0], .agg (msA c), .tuple #[.slice (some ⟨ga, 0, none⟩) L.length L.length, .int .i64 0], .slice (some ⟨ga, 0, none⟩) L.length L.length, .int .i64 0, .int .i64 0, .bool false, undef, undef, undef, undef, undef, undef, undef, undef, undef, undef, undef, undef, .tuple #[.agg (msA cm), .nilIface], .slice (some ⟨ga, 0, none⟩) L.length L.length, .tuple #[.agg (msA cm), .nilIface], .agg (msA cm), .nilIface, .nilIface, .bool false, .bool false, .agg (msA cm), .agg (msA c), .bool true, .bool false, .bool false, .bool false, .slice (some ⟨ga, 0, none⟩) L.length L.length, .int .i64 (L.length : Int), .bool false, .bool false, .bool false, .agg (msA c), .int .i64 0, .bool false, .bool false, f 64, f 65, f 66, f 67, f 68, f 69, f 70, f 71, f 72, f 73, f 74, f 75, f 76, f 77, f 78, f 79, f 80, f 81, f 82, f 83, f 84, f 85, f 86, f 87, f 88, f 89, f 90, f 91, f 92, f 93, f 94, f 95, f 96, f 97, f 98, f 99, f 100, f 101, f 102, f 103, f 104, f 105, f 106, f 107, f 108, f 109, f 110, f 111, f 112, f 113, f 114, f 115, f 116, f 117, f 118, undef, undef, undef, undef, undef, undef, undef, undef, undef, undef, undef, undef, undef, undef, undef, undef, undef, undef, undef, undef, undef, undef, undef, undef, undef, undef, undef, undef, undef, undef, undef, undef, undef, undef, undef, undef, undef, undef, undef, undef, undef, undef, undef, undef, undef, undef, undef], defers := [] } ∧ t ≤ mz ∧ RowAt wr (.slice (some ⟨ga, 0, none⟩) L.length L.length) L ∧ Below w.heap.size w wr) (fun a _ => mz - (intOf (a.tmps.getD 11 undef)).toNat) ⟨0, fun i => [.agg (msA c), .slice ca mz cc, .slice ma N.length mc, .pointer (some ⟨g, 0, none⟩), undef, undef, .bool false, .slice (some ⟨ga, 0, none⟩) L.length L.length, .int .i64 0, .pointer (some ⟨g9, 0, none⟩), .nilIface, .int .i64 0, undef, undef, undef, undef, undef, undef, undef, undef, undef, undef, .tuple #[.slice (some ⟨ga, 0, none⟩) L.length L.length, .int .i64 0], .agg (msA c), .tuple #[.slice (some ⟨ga, 0, none⟩) L.length L.length, .int .i64 0], .slice (some ⟨ga, 0, none⟩) L.length L.length, .int .i64 0, .int .i64 0, .bool false, undef, undef, undef, undef, undef, undef, undef, undef, undef, undef, undef, undef, .tuple #[.agg (msA cm), .nilIface], .slice (some ⟨ga, 0, none⟩) L.length L.length, .tuple #[.agg (msA cm), .nilIface], .agg (msA cm), .nilIface, .nilIface, .bool false, .bool false, .agg (msA cm), .agg (msA c), .bool true, .bool false, .bool false, .bool false, .slice (some ⟨ga, 0, none⟩) L.length L.length, .int .i64 (L.length : Int), .bool false, .bool false, .bool false, .agg (msA c), .int .i64 0, .bool false, .bool false, undef, undef, undef, undef, undef, undef, undef, undef, undef, undef, undef, undef, undef, undef, undef, undef, undef, undef, undef, undef, undef, undef, undef, undef, undef, undef, undef, undef, undef, undef, undef, undef, undef, undef, undef, undef, undef, undef, undef, undef, undef, undef, undef, undef, undef, undef, undef, undef, undef, undef, undef, undef, undef, undef, undef, undef, undef, undef, undef, undef, undef, undef, undef, undef, undef, undef, undef, undef, undef, undef, undef, undef, undef, undef, undef, undef, undef, undef, undef, undef, undef, undef, undef, undef, undef, undef, undef, undef, undef, undef, undef, undef, undef, undef, undef, undef, undef, undef, undef, undef, undef, undef].getD i undef, rfl, by omega, HL6.out, B6.out⟩ ?_
    rintro ac wr ⟨t, f, rfl, ht, hL, hB⟩
    by_cases hlt : t < mz
    · have hlt' : (t : Int) < (mz : Int) := by omega
      have hwt : IntKind.i64.wrap ((t : Int) + 1) = (t : Int) + 1 := by rw [IntKind.wrap_i64]; have := HZn.out; omega
      obtain ⟨qc, oc, hca, hcl⟩ := HZ.out.at hlt
      subst hca
      have hcl2 : wr.cell? ⟨qc, oc + t, none⟩ = some (.int .i64 (Kz t)) := by rw [hB.cell (p := ⟨qc, oc + t, none⟩) (cell_lt hcl)]; exact hcl
      obtain ⟨z, hz⟩ : ∃ z, z = Kz t := ⟨_, rfl⟩
      rw [← hz] at hcl2
      clear hcl hz
      obtain ⟨r, hr⟩ : ∃ r, r = z.tmod (L.length : Int) := ⟨_, rfl⟩
      have hrr : -(L.length : Int) < r ∧ r < (L.length : Int) := by rw [hr]; exact ⟨Int.lt_tmod_of_pos _ (by omega), Int.tmod_lt_of_pos _ (by omega)⟩
      have hL0 : ¬ (L.length : Int) = 0 := by omega
      have hLe : ¬ L = [] := fun h => by rw [h] at hpos; simp at hpos
      obtain ⟨n, hn⟩ : ∃ n : Nat, (n : Int) = if r < 0 then r + (L.length : Int) else r := by
        by_cases h : r < 0
        · exact ⟨(r + (L.length : Int)).toNat, by rw [if_pos h]; omega⟩
        · exact ⟨r.toNat, by rw [if_neg h]; omega⟩
      have hnl : n < L.length := by split at hn <;> omega
      have JB := Keep.mk hB
      have JL := Keep.mk hL
      clear hB hL
      refine wp_seq_k fun K10 hK10 => ?_
      refine wp_seq_k fun K11 hK11 => ?_
      refine wp_region_list (WL.out ?_)
      refine WL.val (by kernel_rfl) (.int .i64 (t : Int)) (by go_simp) ?_
      simp only [Act.put, List.setIfInBounds_toArray, List.set_cons_zero, List.set_cons_succ]
      refine WL.val (by kernel_rfl) (.slice (some ⟨qc, oc, none⟩) mz cc) (by go_simp) ?_
      simp only [Act.put, List.setIfInBounds_toArray, List.set_cons_zero, List.set_cons_succ]
      refine WL.val (by kernel_rfl) (.int .i64 (mz : Int)) (by go_simp) ?_
      simp only [Act.put, List.setIfInBounds_toArray, List.set_cons_zero, List.set_cons_succ]
      refine WL.val (by kernel_rfl) (.bool true) (by go_simp) ?_
      simp only [Act.put, List.setIfInBounds_toArray, List.set_cons_zero, List.set_cons_succ]
      refine WL.nil ?_
      refine hK11 _ _ ?_
      refine wp_cond_true rfl ?_
      refine wp_skip ?_
      refine hK10 _ _ ?_
      refine wp_seq_k fun K12 hK12 => ?_
      refine wp_block ?_
      refine wp_seq_k fun K13 hK13 => ?_
      refine wp_region_list (WL.out ?_)
      refine WL.val (by kernel_rfl) (.slice (some ⟨qc, oc, none⟩) mz cc) (by go_simp) ?_
      simp only [Act.put, List.setIfInBounds_toArray, List.set_cons_zero, List.set_cons_succ]
      refine WL.val (by kernel_rfl) (.int .i64 (t : Int)) (by go_simp) ?_
      simp only [Act.put, List.setIfInBounds_toArray, List.set_cons_zero, List.set_cons_succ]
      refine WL.val (by kernel_rfl) (.pointer (some ⟨qc, oc + t, none⟩)) (by go_simp) ?_
      simp only [Act.put, List.setIfInBounds_toArray, List.set_cons_zero, List.set_cons_succ]
      refine WL.val (by kernel_rfl) (.int .i64 z) (by go_simp) ?_
      simp only [Act.put, List.setIfInBounds_toArray, List.set_cons_zero, List.set_cons_succ]
      refine WL.val (by kernel_rfl) (.slice (some ⟨ga, 0, none⟩) L.length L.length) (by go_simp) ?_
      simp only [Act.put, List.setIfInBounds_toArray, List.set_cons_zero, List.set_cons_succ]
      refine WL.val (by kernel_rfl) (.int .i64 (L.length : Int)) (by go_simp) ?_
      simp only [Act.put, List.setIfInBounds_toArray, List.set_cons_zero, List.set_cons_succ]
      refine WL.val (by kernel_rfl) (.int .i64 r) (by rw [hr]; go_simp) ?_
      simp only [Act.put, List.setIfInBounds_toArray, List.set_cons_zero, List.set_cons_succ]
      refine WL.val (by kernel_rfl) (.int .i64 r) (by go_simp) ?_
      simp only [Act.put, List.setIfInBounds_toArray, List.set_cons_zero, List.set_cons_succ]
      refine WL.nil ?_
      refine hK13 _ _ ?_
      refine wp_seq_k fun K14 hK14 => ?_
      refine wp_seq_k fun K15 hK15 => ?_
      clear hr
      by_cases hrn : r < 0
      · rw [if_pos hrn] at hn
        have hwr : IntKind.i64.wrap (r + (L.length : Int)) = (n : Int) := by rw [IntKind.wrap_i64, ← hn]; omega
        clear hn
        refine wp_region_list (WL.out ?_)
        refine WL.val (by kernel_rfl) (.int .i64 r) (by go_simp) ?_
        simp only [Act.put, List.setIfInBounds_toArray, List.set_cons_zero, List.set_cons_succ]
        refine WL.val (by kernel_rfl) (.bool true) (by go_simp) ?_
        simp only [Act.put, List.setIfInBounds_toArray, List.set_cons_zero, List.set_cons_succ]
        refine WL.nil ?_
        refine hK15 _ _ ?_
        refine wp_cond_true rfl ?_
        refine wp_region_list (WL.out ?_)
        refine WL.val (by kernel_rfl) (.int .i64 r) (by go_simp) ?_
        simp only [Act.put, List.setIfInBounds_toArray, List.set_cons_zero, List.set_cons_succ]
        refine WL.val (by kernel_rfl) (.slice (some ⟨ga, 0, none⟩) L.length L.length) (by go_simp) ?_
        simp only [Act.put, List.setIfInBounds_toArray, List.set_cons_zero, List.set_cons_succ]
        refine WL.val (by kernel_rfl) (.int .i64 (L.length : Int)) (by go_simp) ?_
        simp only [Act.put, List.setIfInBounds_toArray, List.set_cons_zero, List.set_cons_succ]
        refine WL.val (by kernel_rfl) (.int .i64 (n : Int)) (by go_simp) ?_
        simp only [Act.put, List.setIfInBounds_toArray, List.set_cons_zero, List.set_cons_succ]
        refine WL.val (by kernel_rfl) (.int .i64 (n : Int)) (by go_simp) ?_
        simp only [Act.put, List.setIfInBounds_toArray, List.set_cons_zero, List.set_cons_succ]
        refine WL.nil ?_
        refine hK14 _ _ ?_
        refine wp_seq_k fun K16 hK16 => ?_
        refine wp_region_list (WL.out ?_)
        refine WL.val (by kernel_rfl) (.slice (some ⟨ga, 0, none⟩) L.length L.length) (by go_simp) ?_
        simp only [Act.put, List.setIfInBounds_toArray, List.set_cons_zero, List.set_cons_succ]
        refine WL.val (by kernel_rfl) (.int .i64 (n : Int)) (by go_simp) ?_
        simp only [Act.put, List.setIfInBounds_toArray, List.set_cons_zero, List.set_cons_succ]
        refine WL.val (by kernel_rfl) (.slice (some ⟨ga, 0, none⟩) n L.length) (by have h := sl_run (some ⟨ga, 0, none⟩) L.length L.length n (by omega) wr; go_simp) ?_
        simp only [Act.put, List.setIfInBounds_toArray, List.set_cons_zero, List.set_cons_succ]
        have hrt := row_take JL.out (Nat.le_refl _) n (by omega)
        have htl : (L.take n).length = n := by rw [List.length_take]; omega
        refine WL.callF (by kernel_rfl) 13 _ _ rfl Try.in13 #[.slice (some ⟨ga, 0, none⟩) n L.length] (by simp [Act.eval]) ?_
        refine (decode_any _ (L.take n) wr hrt (HBy.out.take n) (by omega)).mono ?_
        rintro e w3 ⟨hb3, h1⟩
        have hds := HDs.out (L.take n) (L.drop n) (by rw [List.take_append_drop]) (fun h => by have := congrArg List.length h; rw [List.length_drop] at this; simp at this; omega)
        rw [htl] at hds h1
        obtain ⟨q, hq, rfl, hbad⟩ : ∃ q, wr.heap.size ≤ q ∧ e = .returned (.tuple #[.agg (msA zeroC), err q]) ∧ BadAt w3 q (decM (L.take n)).1 (decM (L.take n)).2.1 := by
          rcases h1 with h | h | h
          · exfalso; have := h.1; omega
          · exfalso; rw [hds.1] at h; exact absurd h.2.1 (by decide)
          · exact h.2.2
        rw [hds.1] at hbad
        obtain ⟨p, hp⟩ : ∃ p, p = (decM (L.take n)).2.1 := ⟨_, rfl⟩
        rw [← hp] at hbad hds
        refine ⟨_, rfl, ?_⟩
        unfold err
        have Hbad := Keep.mk hbad
        have Hpn : p ≤ n := hds.2
        have Bz3 := Keep.mk hb3
        have HL3 := Keep.mk (JL.out.below hb3)
        have B3 : Keep (Below w.heap.size w w3) := ⟨JB.out.trans (hb3.mono JB.out.size)⟩
        clear h1 hbad hb3 hds hp hrt htl
        simp only [Act.put, List.setIfInBounds_toArray, List.set_cons_zero, List.set_cons_succ]
        refine WL.val (by kernel_rfl) (.tuple #[.agg (msA zeroC), .iface 116 (ptr q)]) (by go_simp) ?_
        simp only [Act.put, List.setIfInBounds_toArray, List.set_cons_zero, List.set_cons_succ]
        refine WL.val (by kernel_rfl) (.agg (msA zeroC)) (by go_simp) ?_
        simp only [Act.put, List.setIfInBounds_toArray, List.set_cons_zero, List.set_cons_succ]
        refine WL.val (by kernel_rfl) (.iface 116 (ptr q)) (by go_simp) ?_
        simp only [Act.put, List.setIfInBounds_toArray, List.set_cons_zero, List.set_cons_succ]
        refine WL.new (by kernel_rfl) 28 rfl _ Try.new28M ?_
        have HNg13 := Keep.mk (Blk.new w3 28 (msA zeroC))
        have BNg13 := Keep.mk (below_new w3 (.cells (msA zeroC) 28))
        generalize w3.alloc (.cells (msA zeroC) 28) = w4a at *
        have Hsg13 : Keep (w3.heap.size = w3.heap.size) := ⟨rfl⟩
        simp only [Act.put, List.setIfInBounds_toArray, List.set_cons_zero, List.set_cons_succ]
        refine WL.storeR (by kernel_rfl) 28 (.tmp 13) (.tmp 88) rfl w3.heap.size (msA zeroC) rfl rfl 28 (msA zeroC) HNg13.out (Try.size28B _) rfl (SlC.zero.one) ?_
        have HMg13 := Keep.mk (HNg13.out.setRow (msA zeroC))
        have Bmg13 : Keep (Below w3.heap.size w3 (w4a.setRow w3.heap.size (msA zeroC))) := ⟨below_setRow BNg13.out (Nat.le_refl _) _⟩
        generalize w4a.setRow w3.heap.size (msA zeroC) = w4 at *
        generalize w3.heap.size = g13 at HMg13 ⊢
        clear HNg13 BNg13 Hsg13
        have HL4 := Keep.mk (HL3.out.below Bmg13.out)
        have HQ4 : Keep (BadAt w4 q 20 p) := ⟨Hbad.out.below Bmg13.out Hbad.out.lt⟩
        have B4 : Keep (Below w.heap.size w w4) := ⟨B3.out.trans (Bmg13.out.mono B3.out.size)⟩
        simp only [Act.put]
        refine WL.val (by kernel_rfl) (.iface 116 (ptr q)) (by go_simp) ?_
        simp only [Act.put, List.setIfInBounds_toArray, List.set_cons_zero, List.set_cons_succ]
        refine WL.nil ?_
        refine hK16 _ _ ?_
        refine wp_seq_k fun K17 hK17 => ?_
        refine wp_region_list (WL.out ?_)
        refine WL.val (by kernel_rfl) (.iface 116 (ptr q)) (by go_simp) ?_
        simp only [Act.put, List.setIfInBounds_toArray, List.set_cons_zero, List.set_cons_succ]
        refine WL.callF (by kernel_rfl) 15 _ _ rfl Try.in15 #[err q] (by simp [Act.eval, err, ptr]) ?_
        refine (told_err q 20 p w4 HQ4.out (by decide)).mono ?_
        rintro e w5 ⟨rfl, hb5⟩
        refine ⟨_, rfl, ?_⟩
        have HX5 := Keep.mk (HMg13.out.below hb5 HMg13.out.lt)
        have HL5 := Keep.mk (HL4.out.below hb5)
        have B5 : Keep (Below w.heap.size w w5) := ⟨B4.out.trans (hb5.mono B4.out.size)⟩
        clear hb5
        simp only [Act.put, List.setIfInBounds_toArray, List.set_cons_zero, List.set_cons_succ]
        refine WL.val (by kernel_rfl) (.tuple #[.agg (erA 20 (p : Int)), .bool true]) (by go_simp) ?_
        simp only [Act.put, List.setIfInBounds_toArray, List.set_cons_zero, List.set_cons_succ]
        refine WL.val (by kernel_rfl) (.agg (erA 20 (p : Int))) (by go_simp) ?_
        simp only [Act.put, List.setIfInBounds_toArray, List.set_cons_zero, List.set_cons_succ]
        refine WL.val (by kernel_rfl) (.bool true) (by go_simp) ?_
        simp only [Act.put, List.setIfInBounds_toArray, List.set_cons_zero, List.set_cons_succ]
        refine WL.new (by kernel_rfl) 41 rfl _ Try.new41E ?_
        have HNg15 := Keep.mk (Blk.new w5 41 (erA 0 0))
        have BNg15 := Keep.mk (below_new w5 (.cells (erA 0 0) 41))
        generalize w5.alloc (.cells (erA 0 0) 41) = w6a at *
        simp only [Act.put, List.setIfInBounds_toArray, List.set_cons_zero, List.set_cons_succ]
        refine WL.storeR (by kernel_rfl) 41 (.tmp 15) (.tmp 93) rfl w5.heap.size (erA 20 (p : Int)) rfl rfl 41 (erA 0 0) HNg15.out (Try.size41B _ _) (erA_sizes _ _ _ _) (erA_one _ _) ?_
        have HMg15 := Keep.mk (HNg15.out.setRow (erA 20 (p : Int)))
        have Bmg15 : Keep (Below w5.heap.size w5 (w6a.setRow w5.heap.size (erA 20 (p : Int)))) := ⟨below_setRow BNg15.out (Nat.le_refl _) _⟩
        generalize w6a.setRow w5.heap.size (erA 20 (p : Int)) = w6 at *
        generalize w5.heap.size = g15 at HMg15 ⊢
        clear HNg15 BNg15
        have HX6 := Keep.mk (HX5.out.below Bmg15.out HX5.out.lt)
        have HL6 := Keep.mk (HL5.out.below Bmg15.out)
        have B6 : Keep (Below w.heap.size w w6) := ⟨B5.out.trans (Bmg15.out.mono B5.out.size)⟩
        have c0 : w6.cell? ⟨g15, 0, none⟩ = some (.int .i64 20) := HMg15.out.c 0 rfl
        have c1 : w6.cell? ⟨g15, 1, none⟩ = some (.int .i64 (p : Int)) := HMg15.out.c 1 rfl
        have hp0 : ¬ (p : Int) < 0 := by omega
        have hp1 : ¬ (n : Int) < (p : Int) := by omega
        simp only [Act.put]
        refine WL.val (by kernel_rfl) (.bool true) (by go_simp) ?_
        simp only [Act.put, List.setIfInBounds_toArray, List.set_cons_zero, List.set_cons_succ]
        refine WL.nil ?_
        refine hK17 _ _ ?_
        refine wp_seq_k fun K18 hK18 => ?_
        refine wp_region_list (WL.out ?_)
        refine WL.val (by kernel_rfl) (.bool true) (by go_simp) ?_
        simp only [Act.put, List.setIfInBounds_toArray, List.set_cons_zero, List.set_cons_succ]
        refine WL.val (by kernel_rfl) (.bool false) (by go_simp) ?_
        simp only [Act.put, List.setIfInBounds_toArray, List.set_cons_zero, List.set_cons_succ]
        refine WL.val (by kernel_rfl) (.bool false) (by go_simp) ?_
        simp only [Act.put, List.setIfInBounds_toArray, List.set_cons_zero, List.set_cons_succ]
        refine WL.val (by kernel_rfl) (.pointer (some ⟨g15, 0, none⟩)) (by go_simp) ?_
        simp only [Act.put, List.setIfInBounds_toArray, List.set_cons_zero, List.set_cons_succ]
        refine WL.val (by kernel_rfl) (.int .i64 20) (by go_simp) ?_
        simp only [Act.put, List.setIfInBounds_toArray, List.set_cons_zero, List.set_cons_succ]
        refine WL.val (by kernel_rfl) (.bool false) (by go_simp) ?_
        simp only [Act.put, List.setIfInBounds_toArray, List.set_cons_zero, List.set_cons_succ]
        refine WL.val (by kernel_rfl) (.bool false) (by go_simp) ?_
        simp only [Act.put, List.setIfInBounds_toArray, List.set_cons_zero, List.set_cons_succ]
        refine WL.val (by kernel_rfl) (.bool false) (by go_simp) ?_
        simp only [Act.put, List.setIfInBounds_toArray, List.set_cons_zero, List.set_cons_succ]
        refine WL.val (by kernel_rfl) (.pointer (some ⟨g15, 1, none⟩)) (by go_simp) ?_
        simp only [Act.put, List.setIfInBounds_toArray, List.set_cons_zero, List.set_cons_succ]
        refine WL.val (by kernel_rfl) (.int .i64 (p : Int)) (by go_simp) ?_
        simp only [Act.put, List.setIfInBounds_toArray, List.set_cons_zero, List.set_cons_succ]
        refine WL.val (by kernel_rfl) (.bool false) (by go_simp) ?_
        simp only [Act.put, List.setIfInBounds_toArray, List.set_cons_zero, List.set_cons_succ]
        refine WL.val (by kernel_rfl) (.bool false) (by go_simp) ?_
        simp only [Act.put, List.setIfInBounds_toArray, List.set_cons_zero, List.set_cons_succ]
        refine WL.val (by kernel_rfl) (.bool false) (by go_simp) ?_
        simp only [Act.put, List.setIfInBounds_toArray, List.set_cons_zero, List.set_cons_succ]
        refine WL.val (by kernel_rfl) (.pointer (some ⟨g15, 1, none⟩)) (by go_simp) ?_
        simp only [Act.put, List.setIfInBounds_toArray, List.set_cons_zero, List.set_cons_succ]
        refine WL.val (by kernel_rfl) (.int .i64 (p : Int)) (by go_simp) ?_
        simp only [Act.put, List.setIfInBounds_toArray, List.set_cons_zero, List.set_cons_succ]
        refine WL.val (by kernel_rfl) (.int .i64 (n : Int)) (by go_simp) ?_
        simp only [Act.put, List.setIfInBounds_toArray, List.set_cons_zero, List.set_cons_succ]
        refine WL.val (by kernel_rfl) (.bool false) (by go_simp) ?_
        simp only [Act.put, List.setIfInBounds_toArray, List.set_cons_zero, List.set_cons_succ]
        refine WL.val (by kernel_rfl) (.bool false) (by go_simp) ?_
        simp only [Act.put, List.setIfInBounds_toArray, List.set_cons_zero, List.set_cons_succ]
        refine WL.val (by kernel_rfl) (.bool false) (by go_simp) ?_
        simp only [Act.put, List.setIfInBounds_toArray, List.set_cons_zero, List.set_cons_succ]
        refine WL.row (by kernel_rfl) 28 (.tmp 13) rfl g13 rfl 28 (msA zeroC) _ HX6.out Try.underlying28 rfl (Try.size28B _) ?_
        simp only [Act.put, List.setIfInBounds_toArray, List.set_cons_zero, List.set_cons_succ]
        refine WL.bld (by kernel_rfl) 28 _ rfl [] (by simp) _ ms_built0 ?_
        simp only [Act.put, List.setIfInBounds_toArray, List.set_cons_zero, List.set_cons_succ]
        refine WL.callF (by kernel_rfl) 16 _ _ rfl Try.in16 #[.agg (msA zeroC), .agg (msA zeroC)] (by simp [Act.eval]) ?_
        refine (same_refl zeroM zeroM_ok zeroC zeroC w6 (zero_at _) (zero_at _)).mono ?_
        rintro e w7 ⟨rfl, hb7⟩
        refine ⟨_, rfl, ?_⟩
        have HL7 := Keep.mk (HL6.out.below hb7)
        have B7 : Keep (Below w.heap.size w w7) := ⟨B6.out.trans (hb7.mono B6.out.size)⟩
        clear hb7
        simp only [Act.put, List.setIfInBounds_toArray, List.set_cons_zero, List.set_cons_succ]
        refine WL.val (by kernel_rfl) (.bool false) (by go_simp) ?_
        simp only [Act.put, List.setIfInBounds_toArray, List.set_cons_zero, List.set_cons_succ]
        refine WL.val (by kernel_rfl) (.bool false) (by go_simp) ?_
        simp only [Act.put, List.setIfInBounds_toArray, List.set_cons_zero, List.set_cons_succ]
        refine WL.nil ?_
        refine hK18 _ _ ?_
        refine wp_cond_false rfl ?_
        refine wp_skip ?_
        refine hK12 _ _ ?_
        refine wp_region_list (WL.out ?_)
        refine WL.val (by kernel_rfl) (.int .i64 (t : Int)) (by go_simp) ?_
        simp only [Act.put, List.setIfInBounds_toArray, List.set_cons_zero, List.set_cons_succ]
        refine WL.val (by kernel_rfl) (.int .i64 ((t : Int) + 1)) (by go_simp) ?_
        simp only [Act.put, List.setIfInBounds_toArray, List.set_cons_zero, List.set_cons_succ]
        refine WL.val (by kernel_rfl) (.int .i64 ((t : Int) + 1)) (by go_simp) ?_
        simp only [Act.put, List.setIfInBounds_toArray, List.set_cons_zero, List.set_cons_succ]
        refine WL.nil ?_
        refine ⟨⟨t + 1, fun i => [.agg (msA c), .slice (some ⟨qc, oc, none⟩) mz cc, .slice ma N.length mc, .pointer (some ⟨g, 0, none⟩), undef, undef, f 6, .slice (some ⟨ga, 0, none⟩) L.length L.length, .int .i64 0, .pointer (some ⟨g9, 0, none⟩), .nilIface, .int .i64 ((t : Int) + 1), .int .i64 (n : Int), .pointer (some ⟨g13, 0, none⟩), .iface 116 (ptr q), .pointer (some ⟨g15, 0, none⟩), .bool true, undef, undef, undef, undef, undef, .tuple #[.slice (some ⟨ga, 0, none⟩) L.length L.length, .int .i64 0], .agg (msA c), .tuple #[.slice (some ⟨ga, 0, none⟩) L.length L.length, .int .i64 0], .slice (some ⟨ga, 0, none⟩) L.length L.length, .int .i64 0, .int .i64 0, .bool false, undef, undef, undef, undef, undef, undef, undef, undef, undef, undef, undef, undef, .tuple #[.agg (msA cm), .nilIface], .slice (some ⟨ga, 0, none⟩) L.length L.length, .tuple #[.agg (msA cm), .nilIface], .agg (msA cm), .nilIface, .nilIface, .bool false, .bool false, .agg (msA cm), .agg (msA c), .bool true, .bool false, .bool false, .bool false, .slice (some ⟨ga, 0, none⟩) L.length L.length, .int .i64 (L.length : Int), .bool false, .bool false, .bool false, .agg (msA c), .int .i64 0, .bool false, .bool false, .int .i64 (t : Int), .slice (some ⟨qc, oc, none⟩) mz cc, .int .i64 (mz : Int), .bool true, .int .i64 (t : Int), .int .i64 ((t : Int) + 1), .slice (some ⟨qc, oc, none⟩) mz cc, .int .i64 (t : Int), .pointer (some ⟨qc, oc + t, none⟩), .int .i64 z, .slice (some ⟨ga, 0, none⟩) L.length L.length, .int .i64 (L.length : Int), .int .i64 r, .int .i64 r, .bool true, .int .i64 r, .slice (some ⟨ga, 0, none⟩) L.length L.length, .int .i64 (L.length : Int), .int .i64 (n : Int), .tuple #[.agg (msA zeroC), .iface 116 (ptr q)], .slice (some ⟨ga, 0, none⟩) L.length L.length, .int .i64 (n : Int), .slice (some ⟨ga, 0, none⟩) n L.length, .tuple #[.agg (msA zeroC), .iface 116 (ptr q)], .agg (msA zeroC), .iface 116 (ptr q), .tuple #[.agg (erA 20 (p : Int)), .bool true], .iface 116 (ptr q), .tuple #[.agg (erA 20 (p : Int)), .bool true], .agg (erA 20 (p : Int)), .bool true, .bool true, .bool false, .bool false, .pointer (some ⟨g15, 0, none⟩), .int .i64 20, .bool false, .bool false, .bool false, .pointer (some ⟨g15, 1, none⟩), .int .i64 (p : Int), .bool false, .bool false, .bool false, .pointer (some ⟨g15, 1, none⟩), .int .i64 (p : Int), .int .i64 (n : Int), .bool false, .bool false, .bool false, .agg (msA zeroC), .agg (msA zeroC), .bool true, .bool false, .bool false, undef, undef, undef, undef, undef, undef, undef, undef, undef, undef, undef, undef, undef, undef, undef, undef, undef, undef, undef, undef, undef, undef, undef, undef, undef, undef, undef, undef, undef, undef, undef, undef, undef, undef, undef, undef, undef, undef, undef, undef, undef, undef, undef, undef, undef, undef, undef].getD i undef, rfl, by omega, HL7.out, B7.out⟩, by simp [intOf]; omega⟩
      · rw [if_neg hrn] at hn
        subst hn
        refine wp_region_list (WL.out ?_)
        refine WL.val (by kernel_rfl) (.int .i64 (n : Int)) (by go_simp) ?_
        simp only [Act.put, List.setIfInBounds_toArray, List.set_cons_zero, List.set_cons_succ]
        refine WL.val (by kernel_rfl) (.bool false) (by go_simp) ?_
        simp only [Act.put, List.setIfInBounds_toArray, List.set_cons_zero, List.set_cons_succ]
        refine WL.nil ?_
        refine hK15 _ _ ?_
        refine wp_cond_false rfl ?_
        refine wp_skip ?_
        refine hK14 _ _ ?_
        refine wp_seq_k fun K19 hK19 => ?_
        refine wp_region_list (WL.out ?_)
        refine WL.val (by kernel_rfl) (.slice (some ⟨ga, 0, none⟩) L.length L.length) (by go_simp) ?_
        simp only [Act.put, List.setIfInBounds_toArray, List.set_cons_zero, List.set_cons_succ]
        refine WL.val (by kernel_rfl) (.int .i64 (n : Int)) (by go_simp) ?_
        simp only [Act.put, List.setIfInBounds_toArray, List.set_cons_zero, List.set_cons_succ]
        refine WL.val (by kernel_rfl) (.slice (some ⟨ga, 0, none⟩) n L.length) (by have h := sl_run (some ⟨ga, 0, none⟩) L.length L.length n (by omega) wr; go_simp) ?_
        simp only [Act.put, List.setIfInBounds_toArray, List.set_cons_zero, List.set_cons_succ]
        have hrt := row_take JL.out (Nat.le_refl _) n (by omega)
        have htl : (L.take n).length = n := by rw [List.length_take]; omega
        refine WL.callF (by kernel_rfl) 13 _ _ rfl Try.in13 #[.slice (some ⟨ga, 0, none⟩) n L.length] (by simp [Act.eval]) ?_
        refine (decode_any _ (L.take n) wr hrt (HBy.out.take n) (by omega)).mono ?_
        rintro e w3 ⟨hb3, h1⟩
        have hds := HDs.out (L.take n) (L.drop n) (by rw [List.take_append_drop]) (fun h => by have := congrArg List.length h; rw [List.length_drop] at this; simp at this; omega)
        rw [htl] at hds h1
        obtain ⟨q, hq, rfl, hbad⟩ : ∃ q, wr.heap.size ≤ q ∧ e = .returned (.tuple #[.agg (msA zeroC), err q]) ∧ BadAt w3 q (decM (L.take n)).1 (decM (L.take n)).2.1 := by
          rcases h1 with h | h | h
          · exfalso; have := h.1; omega
          · exfalso; rw [hds.1] at h; exact absurd h.2.1 (by decide)
          · exact h.2.2
        rw [hds.1] at hbad
        obtain ⟨p, hp⟩ : ∃ p, p = (decM (L.take n)).2.1 := ⟨_, rfl⟩
        rw [← hp] at hbad hds
        refine ⟨_, rfl, ?_⟩
        unfold err
        have Hbad := Keep.mk hbad
        have Hpn : p ≤ n := hds.2
        have Bz3 := Keep.mk hb3
        have HL3 := Keep.mk (JL.out.below hb3)
        have B3 : Keep (Below w.heap.size w w3) := ⟨JB.out.trans (hb3.mono JB.out.size)⟩
        clear h1 hbad hb3 hds hp hrt htl
        simp only [Act.put, List.setIfInBounds_toArray, List.set_cons_zero, List.set_cons_succ]
        refine WL.val (by kernel_rfl) (.tuple #[.agg (msA zeroC), .iface 116 (ptr q)]) (by go_simp) ?_
        simp only [Act.put, List.setIfInBounds_toArray, List.set_cons_zero, List.set_cons_succ]
        refine WL.val (by kernel_rfl) (.agg (msA zeroC)) (by go_simp) ?_
        simp only [Act.put, List.setIfInBounds_toArray, List.set_cons_zero, List.set_cons_succ]
        refine WL.val (by kernel_rfl) (.iface 116 (ptr q)) (by go_simp) ?_
        simp only [Act.put, List.setIfInBounds_toArray, List.set_cons_zero, List.set_cons_succ]
        refine WL.new (by kernel_rfl) 28 rfl _ Try.new28M ?_
        have HNg13 := Keep.mk (Blk.new w3 28 (msA zeroC))
        have BNg13 := Keep.mk (below_new w3 (.cells (msA zeroC) 28))
        generalize w3.alloc (.cells (msA zeroC) 28) = w4a at *
        have Hsg13 : Keep (w3.heap.size = w3.heap.size) := ⟨rfl⟩
        simp only [Act.put, List.setIfInBounds_toArray, List.set_cons_zero, List.set_cons_succ]
        refine WL.storeR (by kernel_rfl) 28 (.tmp 13) (.tmp 88) rfl w3.heap.size (msA zeroC) rfl rfl 28 (msA zeroC) HNg13.out (Try.size28B _) rfl (SlC.zero.one) ?_
        have HMg13 := Keep.mk (HNg13.out.setRow (msA zeroC))
        have Bmg13 : Keep (Below w3.heap.size w3 (w4a.setRow w3.heap.size (msA zeroC))) := ⟨below_setRow BNg13.out (Nat.le_refl _) _⟩
        generalize w4a.setRow w3.heap.size (msA zeroC) = w4 at *
        generalize w3.heap.size = g13 at HMg13 ⊢
        clear HNg13 BNg13 Hsg13
        have HL4 := Keep.mk (HL3.out.below Bmg13.out)
        have HQ4 : Keep (BadAt w4 q 20 p) := ⟨Hbad.out.below Bmg13.out Hbad.out.lt⟩
        have B4 : Keep (Below w.heap.size w w4) := ⟨B3.out.trans (Bmg13.out.mono B3.out.size)⟩
        simp only [Act.put]
        refine WL.val (by kernel_rfl) (.iface 116 (ptr q)) (by go_simp) ?_
        simp only [Act.put, List.setIfInBounds_toArray, List.set_cons_zero, List.set_cons_succ]
        refine WL.nil ?_
        refine hK19 _ _ ?_
        refine wp_seq_k fun K20 hK20 => ?_
        refine wp_region_list (WL.out ?_)
        refine WL.val (by kernel_rfl) (.iface 116 (ptr q)) (by go_simp) ?_
        simp only [Act.put, List.setIfInBounds_toArray, List.set_cons_zero, List.set_cons_succ]
        refine WL.callF (by kernel_rfl) 15 _ _ rfl Try.in15 #[err q] (by simp [Act.eval, err, ptr]) ?_
        refine (told_err q 20 p w4 HQ4.out (by decide)).mono ?_
        rintro e w5 ⟨rfl, hb5⟩
        refine ⟨_, rfl, ?_⟩
        have HX5 := Keep.mk (HMg13.out.below hb5 HMg13.out.lt)
        have HL5 := Keep.mk (HL4.out.below hb5)
        have B5 : Keep (Below w.heap.size w w5) := ⟨B4.out.trans (hb5.mono B4.out.size)⟩
        clear hb5
        simp only [Act.put, List.setIfInBounds_toArray, List.set_cons_zero, List.set_cons_succ]
        refine WL.val (by kernel_rfl) (.tuple #[.agg (erA 20 (p : Int)), .bool true]) (by go_simp) ?_
        simp only [Act.put, List.setIfInBounds_toArray, List.set_cons_zero, List.set_cons_succ]
        refine WL.val (by kernel_rfl) (.agg (erA 20 (p : Int))) (by go_simp) ?_
        simp only [Act.put, List.setIfInBounds_toArray, List.set_cons_zero, List.set_cons_succ]
        refine WL.val (by kernel_rfl) (.bool true) (by go_simp) ?_
        simp only [Act.put, List.setIfInBounds_toArray, List.set_cons_zero, List.set_cons_succ]
        refine WL.new (by kernel_rfl) 41 rfl _ Try.new41E ?_
        have HNg15 := Keep.mk (Blk.new w5 41 (erA 0 0))
        have BNg15 := Keep.mk (below_new w5 (.cells (erA 0 0) 41))
        generalize w5.alloc (.cells (erA 0 0) 41) = w6a at *
        simp only [Act.put, List.setIfInBounds_toArray, List.set_cons_zero, List.set_cons_succ]
        refine WL.storeR (by kernel_rfl) 41 (.tmp 15) (.tmp 93) rfl w5.heap.size (erA 20 (p : Int)) rfl rfl 41 (erA 0 0) HNg15.out (Try.size41B _ _) (erA_sizes _ _ _ _) (erA_one _ _) ?_
        have HMg15 := Keep.mk (HNg15.out.setRow (erA 20 (p : Int)))
        have Bmg15 : Keep (Below w5.heap.size w5 (w6a.setRow w5.heap.size (erA 20 (p : Int)))) := ⟨below_setRow BNg15.out (Nat.le_refl _) _⟩
        generalize w6a.setRow w5.heap.size (erA 20 (p : Int)) = w6 at *
        generalize w5.heap.size = g15 at HMg15 ⊢
        clear HNg15 BNg15
        have HX6 := Keep.mk (HX5.out.below Bmg15.out HX5.out.lt)
        have HL6 := Keep.mk (HL5.out.below Bmg15.out)
        have B6 : Keep (Below w.heap.size w w6) := ⟨B5.out.trans (Bmg15.out.mono B5.out.size)⟩
        have c0 : w6.cell? ⟨g15, 0, none⟩ = some (.int .i64 20) := HMg15.out.c 0 rfl
        have c1 : w6.cell? ⟨g15, 1, none⟩ = some (.int .i64 (p : Int)) := HMg15.out.c 1 rfl
        have hp0 : ¬ (p : Int) < 0 := by omega
        have hp1 : ¬ (n : Int) < (p : Int) := by omega
        simp only [Act.put]
        refine WL.val (by kernel_rfl) (.bool true) (by go_simp) ?_
        simp only [Act.put, List.setIfInBounds_toArray, List.set_cons_zero, List.set_cons_succ]
        refine WL.nil ?_
        refine hK20 _ _ ?_
        refine wp_seq_k fun K21 hK21 => ?_
        refine wp_region_list (WL.out ?_)
        refine WL.val (by kernel_rfl) (.bool true) (by go_simp) ?_
        simp only [Act.put, List.setIfInBounds_toArray, List.set_cons_zero, List.set_cons_succ]
        refine WL.val (by kernel_rfl) (.bool false) (by go_simp) ?_
        simp only [Act.put, List.setIfInBounds_toArray, List.set_cons_zero, List.set_cons_succ]
        refine WL.val (by kernel_rfl) (.bool false) (by go_simp) ?_
        simp only [Act.put, List.setIfInBounds_toArray, List.set_cons_zero, List.set_cons_succ]
        refine WL.val (by kernel_rfl) (.pointer (some ⟨g15, 0, none⟩)) (by go_simp) ?_
        simp only [Act.put, List.setIfInBounds_toArray, List.set_cons_zero, List.set_cons_succ]
        refine WL.val (by kernel_rfl) (.int .i64 20) (by go_simp) ?_
        simp only [Act.put, List.setIfInBounds_toArray, List.set_cons_zero, List.set_cons_succ]
        refine WL.val (by kernel_rfl) (.bool false) (by go_simp) ?_
        simp only [Act.put, List.setIfInBounds_toArray, List.set_cons_zero, List.set_cons_succ]
        refine WL.val (by kernel_rfl) (.bool false) (by go_simp) ?_
        simp only [Act.put, List.setIfInBounds_toArray, List.set_cons_zero, List.set_cons_succ]
        refine WL.val (by kernel_rfl) (.bool false) (by go_simp) ?_
        simp only [Act.put, List.setIfInBounds_toArray, List.set_cons_zero, List.set_cons_succ]
        refine WL.val (by kernel_rfl) (.pointer (some ⟨g15, 1, none⟩)) (by go_simp) ?_
        simp only [Act.put, List.setIfInBounds_toArray, List.set_cons_zero, List.set_cons_succ]
        refine WL.val (by kernel_rfl) (.int .i64 (p : Int)) (by go_simp) ?_
        simp only [Act.put, List.setIfInBounds_toArray, List.set_cons_zero, List.set_cons_succ]
        refine WL.val (by kernel_rfl) (.bool false) (by go_simp) ?_
        simp only [Act.put, List.setIfInBounds_toArray, List.set_cons_zero, List.set_cons_succ]
        refine WL.val (by kernel_rfl) (.bool false) (by go_simp) ?_
        simp only [Act.put, List.setIfInBounds_toArray, List.set_cons_zero, List.set_cons_succ]
        refine WL.val (by kernel_rfl) (.bool false) (by go_simp) ?_
        simp only [Act.put, List.setIfInBounds_toArray, List.set_cons_zero, List.set_cons_succ]
        refine WL.val (by kernel_rfl) (.pointer (some ⟨g15, 1, none⟩)) (by go_simp) ?_
        simp only [Act.put, List.setIfInBounds_toArray, List.set_cons_zero, List.set_cons_succ]
        refine WL.val (by kernel_rfl) (.int .i64 (p : Int)) (by go_simp) ?_
        simp only [Act.put, List.setIfInBounds_toArray, List.set_cons_zero, List.set_cons_succ]
        refine WL.val (by kernel_rfl) (.int .i64 (n : Int)) (by go_simp) ?_
        simp only [Act.put, List.setIfInBounds_toArray, List.set_cons_zero, List.set_cons_succ]
        refine WL.val (by kernel_rfl) (.bool false) (by go_simp) ?_
        simp only [Act.put, List.setIfInBounds_toArray, List.set_cons_zero, List.set_cons_succ]
        refine WL.val (by kernel_rfl) (.bool false) (by go_simp) ?_
        simp only [Act.put, List.setIfInBounds_toArray, List.set_cons_zero, List.set_cons_succ]
        refine WL.val (by kernel_rfl) (.bool false) (by go_simp) ?_
        simp only [Act.put, List.setIfInBounds_toArray, List.set_cons_zero, List.set_cons_succ]
        refine WL.row (by kernel_rfl) 28 (.tmp 13) rfl g13 rfl 28 (msA zeroC) _ HX6.out Try.underlying28 rfl (Try.size28B _) ?_
        simp only [Act.put, List.setIfInBounds_toArray, List.set_cons_zero, List.set_cons_succ]
        refine WL.bld (by kernel_rfl) 28 _ rfl [] (by simp) _ ms_built0 ?_
        simp only [Act.put, List.setIfInBounds_toArray, List.set_cons_zero, List.set_cons_succ]
        refine WL.callF (by kernel_rfl) 16 _ _ rfl Try.in16 #[.agg (msA zeroC), .agg (msA zeroC)] (by simp [Act.eval]) ?_
        refine (same_refl zeroM zeroM_ok zeroC zeroC w6 (zero_at _) (zero_at _)).mono ?_
        rintro e w7 ⟨rfl, hb7⟩
        refine ⟨_, rfl, ?_⟩
        have HL7 := Keep.mk (HL6.out.below hb7)
        have B7 : Keep (Below w.heap.size w w7) := ⟨B6.out.trans (hb7.mono B6.out.size)⟩
        clear hb7
        simp only [Act.put, List.setIfInBounds_toArray, List.set_cons_zero, List.set_cons_succ]
        refine WL.val (by kernel_rfl) (.bool false) (by go_simp) ?_
        simp only [Act.put, List.setIfInBounds_toArray, List.set_cons_zero, List.set_cons_succ]
        refine WL.val (by kernel_rfl) (.bool false) (by go_simp) ?_
        simp only [Act.put, List.setIfInBounds_toArray, List.set_cons_zero, List.set_cons_succ]
        refine WL.nil ?_
        refine hK21 _ _ ?_
        refine wp_cond_false rfl ?_
        refine wp_skip ?_
        refine hK12 _ _ ?_
        refine wp_region_list (WL.out ?_)
        refine WL.val (by kernel_rfl) (.int .i64 (t : Int)) (by go_simp) ?_
        simp only [Act.put, List.setIfInBounds_toArray, List.set_cons_zero, List.set_cons_succ]
        refine WL.val (by kernel_rfl) (.int .i64 ((t : Int) + 1)) (by go_simp) ?_
        simp only [Act.put, List.setIfInBounds_toArray, List.set_cons_zero, List.set_cons_succ]
        refine WL.val (by kernel_rfl) (.int .i64 ((t : Int) + 1)) (by go_simp) ?_
        simp only [Act.put, List.setIfInBounds_toArray, List.set_cons_zero, List.set_cons_succ]
        refine WL.nil ?_
        refine ⟨⟨t + 1, fun i => [.agg (msA c), .slice (some ⟨qc, oc, none⟩) mz cc, .slice ma N.length mc, .pointer (some ⟨g, 0, none⟩), undef, undef, f 6, .slice (some ⟨ga, 0, none⟩) L.length L.length, .int .i64 0, .pointer (some ⟨g9, 0, none⟩), .nilIface, .int .i64 ((t : Int) + 1), .int .i64 (n : Int), .pointer (some ⟨g13, 0, none⟩), .iface 116 (ptr q), .pointer (some ⟨g15, 0, none⟩), .bool true, undef, undef, undef, undef, undef, .tuple #[.slice (some ⟨ga, 0, none⟩) L.length L.length, .int .i64 0], .agg (msA c), .tuple #[.slice (some ⟨ga, 0, none⟩) L.length L.length, .int .i64 0], .slice (some ⟨ga, 0, none⟩) L.length L.length, .int .i64 0, .int .i64 0, .bool false, undef, undef, undef, undef, undef, undef, undef, undef, undef, undef, undef, undef, .tuple #[.agg (msA cm), .nilIface], .slice (some ⟨ga, 0, none⟩) L.length L.length, .tuple #[.agg (msA cm), .nilIface], .agg (msA cm), .nilIface, .nilIface, .bool false, .bool false, .agg (msA cm), .agg (msA c), .bool true, .bool false, .bool false, .bool false, .slice (some ⟨ga, 0, none⟩) L.length L.length, .int .i64 (L.length : Int), .bool false, .bool false, .bool false, .agg (msA c), .int .i64 0, .bool false, .bool false, .int .i64 (t : Int), .slice (some ⟨qc, oc, none⟩) mz cc, .int .i64 (mz : Int), .bool true, .int .i64 (t : Int), .int .i64 ((t : Int) + 1), .slice (some ⟨qc, oc, none⟩) mz cc, .int .i64 (t : Int), .pointer (some ⟨qc, oc + t, none⟩), .int .i64 z, .slice (some ⟨ga, 0, none⟩) L.length L.length, .int .i64 (L.length : Int), .int .i64 (n : Int), .int .i64 (n : Int), .bool false, f 79, f 80, f 81, f 82, .tuple #[.agg (msA zeroC), .iface 116 (ptr q)], .slice (some ⟨ga, 0, none⟩) L.length L.length, .int .i64 (n : Int), .slice (some ⟨ga, 0, none⟩) n L.length, .tuple #[.agg (msA zeroC), .iface 116 (ptr q)], .agg (msA zeroC), .iface 116 (ptr q), .tuple #[.agg (erA 20 (p : Int)), .bool true], .iface 116 (ptr q), .tuple #[.agg (erA 20 (p : Int)), .bool true], .agg (erA 20 (p : Int)), .bool true, .bool true, .bool false, .bool false, .pointer (some ⟨g15, 0, none⟩), .int .i64 20, .bool false, .bool false, .bool false, .pointer (some ⟨g15, 1, none⟩), .int .i64 (p : Int), .bool false, .bool false, .bool false, .pointer (some ⟨g15, 1, none⟩), .int .i64 (p : Int), .int .i64 (n : Int), .bool false, .bool false, .bool false, .agg (msA zeroC), .agg (msA zeroC), .bool true, .bool false, .bool false, undef, undef, undef, undef, undef, undef, undef, undef, undef, undef, undef, undef, undef, undef, undef, undef, undef, undef, undef, undef, undef, undef, undef, undef, undef, undef, undef, undef, undef, undef, undef, undef, undef, undef, undef, undef, undef, undef, undef, undef, undef, undef, undef, undef, undef, undef, undef].getD i undef, rfl, by omega, HL7.out, B7.out⟩, by simp [intOf]; omega⟩
    · have htl' : ¬ (t : Int) < (mz : Int) := by omega
      have JB := Keep.mk hB
      have JL := Keep.mk hL
      have HR8 := Keep.mk (HR.out.below hB)
      clear hB hL
      refine wp_seq_k fun K22 hK22 => ?_
      refine wp_seq_k fun K23 hK23 => ?_
      refine wp_region_list (WL.out ?_)
      refine WL.val (by kernel_rfl) (.int .i64 (t : Int)) (by go_simp) ?_
      simp only [Act.put, List.setIfInBounds_toArray, List.set_cons_zero, List.set_cons_succ]
      refine WL.val (by kernel_rfl) (.slice ca mz cc) (by go_simp) ?_
      simp only [Act.put, List.setIfInBounds_toArray, List.set_cons_zero, List.set_cons_succ]
      refine WL.val (by kernel_rfl) (.int .i64 (mz : Int)) (by go_simp) ?_
      simp only [Act.put, List.setIfInBounds_toArray, List.set_cons_zero, List.set_cons_succ]
      refine WL.val (by kernel_rfl) (.bool false) (by go_simp) ?_
      simp only [Act.put, List.setIfInBounds_toArray, List.set_cons_zero, List.set_cons_succ]
      refine WL.nil ?_
      refine hK23 _ _ ?_
      refine wp_cond_false rfl ?_
      refine wp_exit ?_
      refine hK8 _ _ ?_
      refine wp_seq_k fun K24 hK24 => ?_
      refine wp_region_list (WL.out ?_)
      refine WL.val (by kernel_rfl) (.slice (some ⟨ga, 0, none⟩) L.length L.length) (by go_simp) ?_
      simp only [Act.put, List.setIfInBounds_toArray, List.set_cons_zero, List.set_cons_succ]
      refine WL.appW (by kernel_rfl) _ (.tmp 119) rfl (.slice none 0 0) (.slice (some ⟨ga, 0, none⟩) L.length L.length) [] L rfl rfl (own_nil wr) JL.out (by simp; omega) ?_
      intro va1 w8 ha1
      have HO8 := Keep.mk ha1.1
      have Bz8 : Keep (Below wr.heap.size wr w8) := ⟨by rcases ha1.2 with ⟨_, h⟩ | ⟨_, h⟩; exact h.to_below (fun k hk e => by simp [Value.ownBlock] at e) (Nat.le_refl _); exact h⟩
      have Hn8 : Keep (∀ k, va1.ownBlock = some k → wr.heap.size ≤ k) := ⟨fun k hk => by rcases ha1.2 with ⟨h, _⟩ | ⟨h, _⟩; rw [h] at hk; simp [Value.ownBlock] at hk; rw [h] at hk; injection hk with hk; omega⟩
      clear ha1
      rw [List.nil_append] at HO8
      have HR9 := Keep.mk (HR8.out.below Bz8.out)
      have HL8 := Keep.mk (JL.out.below Bz8.out)
      simp only [Act.put, List.setIfInBounds_toArray, List.set_cons_zero, List.set_cons_succ]
      refine WL.val (by kernel_rfl) (.slice ma N.length mc) (by go_simp) ?_
      simp only [Act.put, List.setIfInBounds_toArray, List.set_cons_zero, List.set_cons_succ]
      refine WL.appW (by kernel_rfl) (.tmp 120) (.tmp 121) rfl va1 (.slice ma N.length mc) L N rfl rfl HO8.out HR9.out (by have := HNl.out; omega) ?_
      intro va2 w9 ha2
      have Bz9 : Keep (Below wr.heap.size wr w9) := ⟨by rcases ha2.2 with ⟨_, h⟩ | ⟨_, h⟩; exact Bz8.out.trans (h.to_below (fun k hk e => by have := Hn8.out k e; omega) Bz8.out.size); exact Bz8.out.trans (h.mono Bz8.out.size)⟩
      have HO9 := Keep.mk ha2.1.row
      clear ha2
      obtain ⟨pa, pc, rfl⟩ := row_form HO9.out
      have B9 : Keep (Below w.heap.size w w9) := ⟨JB.out.trans (Bz9.out.mono JB.out.size)⟩
      obtain ⟨LN, hLN⟩ : ∃ LN, LN = L ++ N := ⟨_, rfl⟩
      rw [← hLN] at HO9 ⊢
      have HLN := Keep.mk hLN
      have hll : LN.length = L.length + N.length := by rw [hLN, List.length_append]
      clear hLN
      have hnl := HNl.out
      have hlli : (LN.length : Int) ≤ 9223372036854775807 := by omega
      have hnli : (N.length : Int) ≤ 9223372036854775807 := by omega
      have HD9 := Keep.mk (HDt.out N)
      rw [← HLN.out] at HD9
      simp only [Act.put, List.setIfInBounds_toArray, List.set_cons_zero, List.set_cons_succ]
      refine WL.val (by kernel_rfl) (.slice pa LN.length pc) (by go_simp) ?_
      simp only [Act.put, List.setIfInBounds_toArray, List.set_cons_zero, List.set_cons_succ]
      refine WL.nil ?_
      refine hK24 _ _ ?_
      refine wp_seq_k fun K25 hK25 => ?_
      refine wp_region_list (WL.out ?_)
      refine WL.val (by kernel_rfl) (.slice pa LN.length pc) (by go_simp) ?_
      simp only [Act.put, List.setIfInBounds_toArray, List.set_cons_zero, List.set_cons_succ]
      refine WL.callF (by kernel_rfl) 13 _ _ rfl Try.in13 #[.slice pa LN.length pc] (by simp [Act.eval]) ?_
      refine (decode_wide _ LN w9 HO9.out (by rw [HLN.out]; exact HBy.out.app HNb.out) (by omega)).mono ?_
      rintro e w10 ⟨hb10, h1⟩
      have B10 : Keep (Below w.heap.size w w10) := ⟨B9.out.trans (hb10.mono B9.out.size)⟩
      clear hb10
      rcases Nat.eq_zero_or_pos N.length with hN0 | hN0
      · have hNe : N = [] := List.eq_nil_of_length_eq_zero hN0
        have hd9 := HD9.out
        rw [if_pos hNe] at hd9
        rw [hd9] at h1
        obtain ⟨cm2, rfl, hD2⟩ : ∃ c, e = .returned (.tuple #[.agg (msA c), .nilIface]) ∧ DecAt w9.heap.size w10 M c := by
          rcases h1 with h | h | h
          · exfalso; have := h.1; omega
          · exact h.2.2
          · exact absurd rfl h.2.1
        have Hsl2 := Keep.mk hD2.ms.sl
        clear h1 hD2 hd9
        refine ⟨_, rfl, ?_⟩
        have hN0i : (N.length : Int) = 0 := by omega
        simp only [Act.put, List.setIfInBounds_toArray, List.set_cons_zero, List.set_cons_succ]
        clear hll
        refine WL.val (by kernel_rfl) (.tuple #[.agg (msA cm2), .nilIface]) (by go_simp) ?_
        simp only [Act.put, List.setIfInBounds_toArray, List.set_cons_zero, List.set_cons_succ]
        refine WL.val (by kernel_rfl) (.agg (msA cm2)) (by go_simp) ?_
        simp only [Act.put, List.setIfInBounds_toArray, List.set_cons_zero, List.set_cons_succ]
        refine WL.val (by kernel_rfl) (.nilIface) (by go_simp) ?_
        simp only [Act.put, List.setIfInBounds_toArray, List.set_cons_zero, List.set_cons_succ]
        refine WL.new (by kernel_rfl) 28 rfl _ Try.new28M ?_
        have HNg18 := Keep.mk (Blk.new w10 28 (msA zeroC))
        have BNg18 := Keep.mk (below_new w10 (.cells (msA zeroC) 28))
        generalize w10.alloc (.cells (msA zeroC) 28) = w11a at *
        have Hsg18 : Keep (w10.heap.size = w10.heap.size) := ⟨rfl⟩
        simp only [Act.put, List.setIfInBounds_toArray, List.set_cons_zero, List.set_cons_succ]
        refine WL.storeR (by kernel_rfl) 28 (.tmp 18) (.tmp 126) rfl w10.heap.size (msA cm2) rfl rfl 28 (msA zeroC) HNg18.out (Try.size28B _) rfl (Hsl2.out.one) ?_
        have HMg18 := Keep.mk (HNg18.out.setRow (msA cm2))
        have Bmg18 : Keep (Below w10.heap.size w10 (w11a.setRow w10.heap.size (msA cm2))) := ⟨below_setRow BNg18.out (Nat.le_refl _) _⟩
        generalize w11a.setRow w10.heap.size (msA cm2) = w11 at *
        generalize w10.heap.size = g18 at HMg18 ⊢
        clear HNg18 BNg18 Hsg18
        have B11 : Keep (Below w.heap.size w w11) := ⟨B10.out.trans (Bmg18.out.mono B10.out.size)⟩
        simp only [Act.put]
        refine WL.val (by kernel_rfl) (.nilIface) (by go_simp) ?_
        simp only [Act.put, List.setIfInBounds_toArray, List.set_cons_zero, List.set_cons_succ]
        refine WL.nil ?_
        refine hK25 _ _ ?_
        refine wp_seq_k fun K26 hK26 => ?_
        refine wp_region_list (WL.out ?_)
        refine WL.val (by kernel_rfl) (.nilIface) (by go_simp) ?_
        simp only [Act.put, List.setIfInBounds_toArray, List.set_cons_zero, List.set_cons_succ]
        refine WL.callF (by kernel_rfl) 15 _ _ rfl Try.in15 #[.nilIface] (by simp [Act.eval, err, ptr]) ?_
        refine (told_nil w11).mono ?_
        rintro e w12 ⟨rfl, hb12⟩
        refine ⟨_, rfl, ?_⟩
        have HX12 := Keep.mk (HMg18.out.below hb12 HMg18.out.lt)
        have B12 : Keep (Below w.heap.size w w12) := ⟨B11.out.trans (hb12.mono B11.out.size)⟩
        clear hb12
        simp only [Act.put, List.setIfInBounds_toArray, List.set_cons_zero, List.set_cons_succ]
        refine WL.val (by kernel_rfl) (.tuple #[.agg (erA 0 0), .bool true]) (by go_simp) ?_
        simp only [Act.put, List.setIfInBounds_toArray, List.set_cons_zero, List.set_cons_succ]
        refine WL.val (by kernel_rfl) (.agg (erA 0 0)) (by go_simp) ?_
        simp only [Act.put, List.setIfInBounds_toArray, List.set_cons_zero, List.set_cons_succ]
        refine WL.val (by kernel_rfl) (.bool true) (by go_simp) ?_
        simp only [Act.put, List.setIfInBounds_toArray, List.set_cons_zero, List.set_cons_succ]
        refine WL.new (by kernel_rfl) 41 rfl _ Try.new41E ?_
        have HNg20 := Keep.mk (Blk.new w12 41 (erA 0 0))
        have BNg20 := Keep.mk (below_new w12 (.cells (erA 0 0) 41))
        generalize w12.alloc (.cells (erA 0 0) 41) = w13a at *
        simp only [Act.put, List.setIfInBounds_toArray, List.set_cons_zero, List.set_cons_succ]
        refine WL.storeR (by kernel_rfl) 41 (.tmp 20) (.tmp 131) rfl w12.heap.size (erA 0 0) rfl rfl 41 (erA 0 0) HNg20.out (Try.size41B _ _) (erA_sizes _ _ _ _) (erA_one _ _) ?_
        have HMg20 := Keep.mk (HNg20.out.setRow (erA 0 0))
        have Bmg20 : Keep (Below w12.heap.size w12 (w13a.setRow w12.heap.size (erA 0 0))) := ⟨below_setRow BNg20.out (Nat.le_refl _) _⟩
        generalize w13a.setRow w12.heap.size (erA 0 0) = w13 at *
        generalize w12.heap.size = g20 at HMg20 ⊢
        clear HNg20 BNg20
        have HX13 := Keep.mk (HX12.out.below Bmg20.out HX12.out.lt)
        have B13 : Keep (Below w.heap.size w w13) := ⟨B12.out.trans (Bmg20.out.mono B12.out.size)⟩
        simp only [Act.put]
        refine WL.val (by kernel_rfl) (.bool true) (by go_simp) ?_
        simp only [Act.put, List.setIfInBounds_toArray, List.set_cons_zero, List.set_cons_succ]
        refine WL.nil ?_
        refine hK26 _ _ ?_
        refine wp_seq_k fun K27 hK27 => ?_
        refine wp_seq_k fun K28 hK28 => ?_
        refine wp_region_list (WL.out ?_)
        refine WL.val (by kernel_rfl) (.slice ma N.length mc) (by go_simp) ?_
        simp only [Act.put, List.setIfInBounds_toArray, List.set_cons_zero, List.set_cons_succ]
        refine WL.val (by kernel_rfl) (.int .i64 (N.length : Int)) (by go_simp) ?_
        simp only [Act.put, List.setIfInBounds_toArray, List.set_cons_zero, List.set_cons_succ]
        refine WL.val (by kernel_rfl) (.bool true) (by go_simp) ?_
        simp only [Act.put, List.setIfInBounds_toArray, List.set_cons_zero, List.set_cons_succ]
        refine WL.val (by kernel_rfl) (.bool true) (by go_simp) ?_
        simp only [Act.put, List.setIfInBounds_toArray, List.set_cons_zero, List.set_cons_succ]
        refine WL.skip (by kernel_rfl) ?_
        simp only [Act.put, List.setIfInBounds_toArray, List.set_cons_zero, List.set_cons_succ]
        refine WL.skip (by kernel_rfl) ?_
        simp only [Act.put, List.setIfInBounds_toArray, List.set_cons_zero, List.set_cons_succ]
        refine WL.skip (by kernel_rfl) ?_
        simp only [Act.put, List.setIfInBounds_toArray, List.set_cons_zero, List.set_cons_succ]
        refine WL.val (by kernel_rfl) (.bool true) (by go_simp) ?_
        simp only [Act.put, List.setIfInBounds_toArray, List.set_cons_zero, List.set_cons_succ]
        refine WL.nil ?_
        refine hK28 _ _ ?_
        refine wp_cond_true rfl ?_
        refine wp_seq_k fun K29 hK29 => ?_
        refine wp_region_list (WL.out ?_)
        refine WL.val (by kernel_rfl) (.slice ma N.length mc) (by go_simp) ?_
        simp only [Act.put, List.setIfInBounds_toArray, List.set_cons_zero, List.set_cons_succ]
        refine WL.val (by kernel_rfl) (.int .i64 (N.length : Int)) (by go_simp) ?_
        simp only [Act.put, List.setIfInBounds_toArray, List.set_cons_zero, List.set_cons_succ]
        refine WL.val (by kernel_rfl) (.bool true) (by go_simp) ?_
        simp only [Act.put, List.setIfInBounds_toArray, List.set_cons_zero, List.set_cons_succ]
        refine WL.val (by kernel_rfl) (.nilIface) (by go_simp) ?_
        simp only [Act.put, List.setIfInBounds_toArray, List.set_cons_zero, List.set_cons_succ]
        refine WL.val (by kernel_rfl) (.bool true) (by go_simp) ?_
        simp only [Act.put, List.setIfInBounds_toArray, List.set_cons_zero, List.set_cons_succ]
        refine WL.val (by kernel_rfl) (.bool true) (by go_simp) ?_
        simp only [Act.put, List.setIfInBounds_toArray, List.set_cons_zero, List.set_cons_succ]
        refine WL.val (by kernel_rfl) (.bool true) (by go_simp) ?_
        simp only [Act.put, List.setIfInBounds_toArray, List.set_cons_zero, List.set_cons_succ]
        refine WL.callF (by kernel_rfl) 9 _ _ rfl Try.in9 #[] (by simp [Act.eval]) ?_
        refine (fixed_any w13).mono ?_
        rintro e w14 ⟨rfl, hb14⟩
        refine ⟨_, rfl, ?_⟩
        have B14 : Keep (Below w.heap.size w w14) := ⟨B13.out.trans (hb14.mono B13.out.size)⟩
        clear hb14
        simp only [Act.put, List.setIfInBounds_toArray, List.set_cons_zero, List.set_cons_succ]
        refine WL.val (by kernel_rfl) (.bool true) (by go_simp) ?_
        simp only [Act.put, List.setIfInBounds_toArray, List.set_cons_zero, List.set_cons_succ]
        refine WL.val (by kernel_rfl) (.bool true) (by go_simp) ?_
        simp only [Act.put, List.setIfInBounds_toArray, List.set_cons_zero, List.set_cons_succ]
        refine WL.nil ?_
        refine hK29 _ _ ?_
        refine wp_ret ?_
        go_ret
        exact ⟨rfl, B14.out⟩
      · have hNi : ¬ (N.length : Int) = 0 := by omega
        have hNe : ¬ N = [] := fun h => by rw [h] at hN0; simp at hN0
        have hd9 := HD9.out
        rw [if_neg hNe] at hd9
        by_cases hbig : 2097152 < LN.length
        · obtain rfl : e = .returned (.tuple #[.agg (msA zeroC), .iface 29 (.int .i64 4)]) := by
            rcases h1 with h | h | h
            · exact h.2
            · exfalso; have := h.1; omega
            · exfalso; have := h.1; omega
          clear h1 hd9
          refine ⟨_, rfl, ?_⟩
          have hbi : (2097152 : Int) < (LN.length : Int) := by omega
          simp only [Act.put, List.setIfInBounds_toArray, List.set_cons_zero, List.set_cons_succ]
          clear hll
          refine WL.val (by kernel_rfl) (.tuple #[.agg (msA zeroC), .iface 29 (.int .i64 4)]) (by go_simp) ?_
          simp only [Act.put, List.setIfInBounds_toArray, List.set_cons_zero, List.set_cons_succ]
          refine WL.val (by kernel_rfl) (.agg (msA zeroC)) (by go_simp) ?_
          simp only [Act.put, List.setIfInBounds_toArray, List.set_cons_zero, List.set_cons_succ]
          refine WL.val (by kernel_rfl) (.iface 29 (.int .i64 4)) (by go_simp) ?_
          simp only [Act.put, List.setIfInBounds_toArray, List.set_cons_zero, List.set_cons_succ]
          refine WL.new (by kernel_rfl) 28 rfl _ Try.new28M ?_
          have HNg18 := Keep.mk (Blk.new w10 28 (msA zeroC))
          have BNg18 := Keep.mk (below_new w10 (.cells (msA zeroC) 28))
          generalize w10.alloc (.cells (msA zeroC) 28) = w11a at *
          have Hsg18 : Keep (w10.heap.size = w10.heap.size) := ⟨rfl⟩
          simp only [Act.put, List.setIfInBounds_toArray, List.set_cons_zero, List.set_cons_succ]
          refine WL.storeR (by kernel_rfl) 28 (.tmp 18) (.tmp 126) rfl w10.heap.size (msA zeroC) rfl rfl 28 (msA zeroC) HNg18.out (Try.size28B _) rfl (SlC.zero.one) ?_
          have HMg18 := Keep.mk (HNg18.out.setRow (msA zeroC))
          have Bmg18 : Keep (Below w10.heap.size w10 (w11a.setRow w10.heap.size (msA zeroC))) := ⟨below_setRow BNg18.out (Nat.le_refl _) _⟩
          generalize w11a.setRow w10.heap.size (msA zeroC) = w11 at *
          generalize w10.heap.size = g18 at HMg18 ⊢
          clear HNg18 BNg18 Hsg18
          have B11 : Keep (Below w.heap.size w w11) := ⟨B10.out.trans (Bmg18.out.mono B10.out.size)⟩
          simp only [Act.put]
          refine WL.val (by kernel_rfl) (.iface 29 (.int .i64 4)) (by go_simp) ?_
          simp only [Act.put, List.setIfInBounds_toArray, List.set_cons_zero, List.set_cons_succ]
          refine WL.nil ?_
          refine hK25 _ _ ?_
          refine wp_seq_k fun K30 hK30 => ?_
          refine wp_region_list (WL.out ?_)
          refine WL.val (by kernel_rfl) (.iface 29 (.int .i64 4)) (by go_simp) ?_
          simp only [Act.put, List.setIfInBounds_toArray, List.set_cons_zero, List.set_cons_succ]
          refine WL.callF (by kernel_rfl) 15 _ _ rfl Try.in15 #[.iface 29 (.int .i64 4)] (by simp [Act.eval, err, ptr]) ?_
          refine (told_errno w11).mono ?_
          rintro e w12 ⟨rfl, hb12⟩
          refine ⟨_, rfl, ?_⟩
          have HX12 := Keep.mk (HMg18.out.below hb12 HMg18.out.lt)
          have B12 : Keep (Below w.heap.size w w12) := ⟨B11.out.trans (hb12.mono B11.out.size)⟩
          clear hb12
          simp only [Act.put, List.setIfInBounds_toArray, List.set_cons_zero, List.set_cons_succ]
          refine WL.val (by kernel_rfl) (.tuple #[.agg (erA 4 (-1)), .bool true]) (by go_simp) ?_
          simp only [Act.put, List.setIfInBounds_toArray, List.set_cons_zero, List.set_cons_succ]
          refine WL.val (by kernel_rfl) (.agg (erA 4 (-1))) (by go_simp) ?_
          simp only [Act.put, List.setIfInBounds_toArray, List.set_cons_zero, List.set_cons_succ]
          refine WL.val (by kernel_rfl) (.bool true) (by go_simp) ?_
          simp only [Act.put, List.setIfInBounds_toArray, List.set_cons_zero, List.set_cons_succ]
          refine WL.new (by kernel_rfl) 41 rfl _ Try.new41E ?_
          have HNg20 := Keep.mk (Blk.new w12 41 (erA 0 0))
          have BNg20 := Keep.mk (below_new w12 (.cells (erA 0 0) 41))
          generalize w12.alloc (.cells (erA 0 0) 41) = w13a at *
          simp only [Act.put, List.setIfInBounds_toArray, List.set_cons_zero, List.set_cons_succ]
          refine WL.storeR (by kernel_rfl) 41 (.tmp 20) (.tmp 131) rfl w12.heap.size (erA 4 (-1)) rfl rfl 41 (erA 0 0) HNg20.out (Try.size41B _ _) (erA_sizes _ _ _ _) (erA_one _ _) ?_
          have HMg20 := Keep.mk (HNg20.out.setRow (erA 4 (-1)))
          have Bmg20 : Keep (Below w12.heap.size w12 (w13a.setRow w12.heap.size (erA 4 (-1)))) := ⟨below_setRow BNg20.out (Nat.le_refl _) _⟩
          generalize w13a.setRow w12.heap.size (erA 4 (-1)) = w13 at *
          generalize w12.heap.size = g20 at HMg20 ⊢
          clear HNg20 BNg20
          have HX13 := Keep.mk (HX12.out.below Bmg20.out HX12.out.lt)
          have B13 : Keep (Below w.heap.size w w13) := ⟨B12.out.trans (Bmg20.out.mono B12.out.size)⟩
          simp only [Act.put]
          refine WL.val (by kernel_rfl) (.bool true) (by go_simp) ?_
          simp only [Act.put, List.setIfInBounds_toArray, List.set_cons_zero, List.set_cons_succ]
          refine WL.nil ?_
          refine hK30 _ _ ?_
          refine wp_seq_k fun K31 hK31 => ?_
          refine wp_seq_k fun K32 hK32 => ?_
          refine wp_region_list (WL.out ?_)
          refine WL.val (by kernel_rfl) (.slice ma N.length mc) (by go_simp) ?_
          simp only [Act.put, List.setIfInBounds_toArray, List.set_cons_zero, List.set_cons_succ]
          refine WL.val (by kernel_rfl) (.int .i64 (N.length : Int)) (by go_simp) ?_
          simp only [Act.put, List.setIfInBounds_toArray, List.set_cons_zero, List.set_cons_succ]
          refine WL.val (by kernel_rfl) (.bool false) (by go_simp) ?_
          simp only [Act.put, List.setIfInBounds_toArray, List.set_cons_zero, List.set_cons_succ]
          refine WL.val (by kernel_rfl) (.bool false) (by go_simp) ?_
          simp only [Act.put, List.setIfInBounds_toArray, List.set_cons_zero, List.set_cons_succ]
          refine WL.val (by kernel_rfl) (.slice pa LN.length pc) (by go_simp) ?_
          simp only [Act.put, List.setIfInBounds_toArray, List.set_cons_zero, List.set_cons_succ]
          refine WL.val (by kernel_rfl) (.int .i64 (LN.length : Int)) (by go_simp) ?_
          simp only [Act.put, List.setIfInBounds_toArray, List.set_cons_zero, List.set_cons_succ]
          refine WL.val (by kernel_rfl) (.bool true) (by go_simp) ?_
          simp only [Act.put, List.setIfInBounds_toArray, List.set_cons_zero, List.set_cons_succ]
          refine WL.val (by kernel_rfl) (.bool true) (by go_simp) ?_
          simp only [Act.put, List.setIfInBounds_toArray, List.set_cons_zero, List.set_cons_succ]
          refine WL.nil ?_
          refine hK32 _ _ ?_
          refine wp_cond_true rfl ?_
          refine wp_seq_k fun K33 hK33 => ?_
          refine wp_region_list (WL.out ?_)
          refine WL.val (by kernel_rfl) (.slice ma N.length mc) (by go_simp) ?_
          simp only [Act.put, List.setIfInBounds_toArray, List.set_cons_zero, List.set_cons_succ]
          refine WL.val (by kernel_rfl) (.int .i64 (N.length : Int)) (by go_simp) ?_
          simp only [Act.put, List.setIfInBounds_toArray, List.set_cons_zero, List.set_cons_succ]
          refine WL.val (by kernel_rfl) (.bool false) (by go_simp) ?_
          simp only [Act.put, List.setIfInBounds_toArray, List.set_cons_zero, List.set_cons_succ]
          refine WL.val (by kernel_rfl) (.iface 29 (.int .i64 4)) (by go_simp) ?_
          simp only [Act.put, List.setIfInBounds_toArray, List.set_cons_zero, List.set_cons_succ]
          refine WL.val (by kernel_rfl) (.bool false) (by go_simp) ?_
          simp only [Act.put, List.setIfInBounds_toArray, List.set_cons_zero, List.set_cons_succ]
          refine WL.val (by kernel_rfl) (.bool true) (by go_simp) ?_
          simp only [Act.put, List.setIfInBounds_toArray, List.set_cons_zero, List.set_cons_succ]
          refine WL.val (by kernel_rfl) (.bool true) (by go_simp) ?_
          simp only [Act.put, List.setIfInBounds_toArray, List.set_cons_zero, List.set_cons_succ]
          refine WL.callF (by kernel_rfl) 9 _ _ rfl Try.in9 #[] (by simp [Act.eval]) ?_
          refine (fixed_any w13).mono ?_
          rintro e w14 ⟨rfl, hb14⟩
          refine ⟨_, rfl, ?_⟩
          have B14 : Keep (Below w.heap.size w w14) := ⟨B13.out.trans (hb14.mono B13.out.size)⟩
          clear hb14
          simp only [Act.put, List.setIfInBounds_toArray, List.set_cons_zero, List.set_cons_succ]
          refine WL.val (by kernel_rfl) (.bool true) (by go_simp) ?_
          simp only [Act.put, List.setIfInBounds_toArray, List.set_cons_zero, List.set_cons_succ]
          refine WL.val (by kernel_rfl) (.bool true) (by go_simp) ?_
          simp only [Act.put, List.setIfInBounds_toArray, List.set_cons_zero, List.set_cons_succ]
          refine WL.nil ?_
          refine hK33 _ _ ?_
          refine wp_ret ?_
          go_ret
          exact ⟨rfl, B14.out⟩
        · obtain ⟨q, hq, rfl, hbad⟩ : ∃ q, w9.heap.size ≤ q ∧ e = .returned (.tuple #[.agg (msA zeroC), err q]) ∧ BadAt w10 q 23 L.length := by
            rw [hd9] at h1
            rcases h1 with h | h | h
            · exfalso; have := h.1; omega
            · exact absurd h.2.1 (by simp)
            · exact h.2.2
          unfold err
          have Hbad := Keep.mk hbad
          clear h1 hd9 hbad
          refine ⟨_, rfl, ?_⟩
          have hbi : ¬ (2097152 : Int) < (LN.length : Int) := by omega
          simp only [Act.put, List.setIfInBounds_toArray, List.set_cons_zero, List.set_cons_succ]
          clear hll
          refine WL.val (by kernel_rfl) (.tuple #[.agg (msA zeroC), .iface 116 (ptr q)]) (by go_simp) ?_
          simp only [Act.put, List.setIfInBounds_toArray, List.set_cons_zero, List.set_cons_succ]
          refine WL.val (by kernel_rfl) (.agg (msA zeroC)) (by go_simp) ?_
          simp only [Act.put, List.setIfInBounds_toArray, List.set_cons_zero, List.set_cons_succ]
          refine WL.val (by kernel_rfl) (.iface 116 (ptr q)) (by go_simp) ?_
          simp only [Act.put, List.setIfInBounds_toArray, List.set_cons_zero, List.set_cons_succ]
          refine WL.new (by kernel_rfl) 28 rfl _ Try.new28M ?_
          have HNg18 := Keep.mk (Blk.new w10 28 (msA zeroC))
          have BNg18 := Keep.mk (below_new w10 (.cells (msA zeroC) 28))
          generalize w10.alloc (.cells (msA zeroC) 28) = w11a at *
          have Hsg18 : Keep (w10.heap.size = w10.heap.size) := ⟨rfl⟩
          simp only [Act.put, List.setIfInBounds_toArray, List.set_cons_zero, List.set_cons_succ]
          refine WL.storeR (by kernel_rfl) 28 (.tmp 18) (.tmp 126) rfl w10.heap.size (msA zeroC) rfl rfl 28 (msA zeroC) HNg18.out (Try.size28B _) rfl (SlC.zero.one) ?_
          have HMg18 := Keep.mk (HNg18.out.setRow (msA zeroC))
          have Bmg18 : Keep (Below w10.heap.size w10 (w11a.setRow w10.heap.size (msA zeroC))) := ⟨below_setRow BNg18.out (Nat.le_refl _) _⟩
          generalize w11a.setRow w10.heap.size (msA zeroC) = w11 at *
          generalize w10.heap.size = g18 at HMg18 ⊢
          clear HNg18 BNg18 Hsg18
          have B11 : Keep (Below w.heap.size w w11) := ⟨B10.out.trans (Bmg18.out.mono B10.out.size)⟩
          have HQ11 : Keep (BadAt w11 q 23 L.length) := ⟨Hbad.out.below Bmg18.out Hbad.out.lt⟩
          simp only [Act.put]
          refine WL.val (by kernel_rfl) (.iface 116 (ptr q)) (by go_simp) ?_
          simp only [Act.put, List.setIfInBounds_toArray, List.set_cons_zero, List.set_cons_succ]
          refine WL.nil ?_
          refine hK25 _ _ ?_
          refine wp_seq_k fun K34 hK34 => ?_
          refine wp_region_list (WL.out ?_)
          refine WL.val (by kernel_rfl) (.iface 116 (ptr q)) (by go_simp) ?_
          simp only [Act.put, List.setIfInBounds_toArray, List.set_cons_zero, List.set_cons_succ]
          refine WL.callF (by kernel_rfl) 15 _ _ rfl Try.in15 #[err q] (by simp [Act.eval, err, ptr]) ?_
          refine (told_err q 23 L.length w11 HQ11.out (by decide)).mono ?_
          rintro e w12 ⟨rfl, hb12⟩
          refine ⟨_, rfl, ?_⟩
          have HX12 := Keep.mk (HMg18.out.below hb12 HMg18.out.lt)
          have B12 : Keep (Below w.heap.size w w12) := ⟨B11.out.trans (hb12.mono B11.out.size)⟩
          clear hb12
          simp only [Act.put, List.setIfInBounds_toArray, List.set_cons_zero, List.set_cons_succ]
          refine WL.val (by kernel_rfl) (.tuple #[.agg (erA 23 (L.length : Int)), .bool true]) (by go_simp) ?_
          simp only [Act.put, List.setIfInBounds_toArray, List.set_cons_zero, List.set_cons_succ]
          refine WL.val (by kernel_rfl) (.agg (erA 23 (L.length : Int))) (by go_simp) ?_
          simp only [Act.put, List.setIfInBounds_toArray, List.set_cons_zero, List.set_cons_succ]
          refine WL.val (by kernel_rfl) (.bool true) (by go_simp) ?_
          simp only [Act.put, List.setIfInBounds_toArray, List.set_cons_zero, List.set_cons_succ]
          refine WL.new (by kernel_rfl) 41 rfl _ Try.new41E ?_
          have HNg20 := Keep.mk (Blk.new w12 41 (erA 0 0))
          have BNg20 := Keep.mk (below_new w12 (.cells (erA 0 0) 41))
          generalize w12.alloc (.cells (erA 0 0) 41) = w13a at *
          simp only [Act.put, List.setIfInBounds_toArray, List.set_cons_zero, List.set_cons_succ]
          refine WL.storeR (by kernel_rfl) 41 (.tmp 20) (.tmp 131) rfl w12.heap.size (erA 23 (L.length : Int)) rfl rfl 41 (erA 0 0) HNg20.out (Try.size41B _ _) (erA_sizes _ _ _ _) (erA_one _ _) ?_
          have HMg20 := Keep.mk (HNg20.out.setRow (erA 23 (L.length : Int)))
          have Bmg20 : Keep (Below w12.heap.size w12 (w13a.setRow w12.heap.size (erA 23 (L.length : Int)))) := ⟨below_setRow BNg20.out (Nat.le_refl _) _⟩
          generalize w13a.setRow w12.heap.size (erA 23 (L.length : Int)) = w13 at *
          generalize w12.heap.size = g20 at HMg20 ⊢
          clear HNg20 BNg20
          have HX13 := Keep.mk (HX12.out.below Bmg20.out HX12.out.lt)
          have B13 : Keep (Below w.heap.size w w13) := ⟨B12.out.trans (Bmg20.out.mono B12.out.size)⟩
          simp only [Act.put]
          refine WL.val (by kernel_rfl) (.bool true) (by go_simp) ?_
          simp only [Act.put, List.setIfInBounds_toArray, List.set_cons_zero, List.set_cons_succ]
          refine WL.nil ?_
          refine hK34 _ _ ?_
          refine wp_seq_k fun K35 hK35 => ?_
          refine wp_seq_k fun K36 hK36 => ?_
          refine wp_region_list (WL.out ?_)
          refine WL.val (by kernel_rfl) (.slice ma N.length mc) (by go_simp) ?_
          simp only [Act.put, List.setIfInBounds_toArray, List.set_cons_zero, List.set_cons_succ]
          refine WL.val (by kernel_rfl) (.int .i64 (N.length : Int)) (by go_simp) ?_
          simp only [Act.put, List.setIfInBounds_toArray, List.set_cons_zero, List.set_cons_succ]
          refine WL.val (by kernel_rfl) (.bool false) (by go_simp) ?_
          simp only [Act.put, List.setIfInBounds_toArray, List.set_cons_zero, List.set_cons_succ]
          refine WL.val (by kernel_rfl) (.bool false) (by go_simp) ?_
          simp only [Act.put, List.setIfInBounds_toArray, List.set_cons_zero, List.set_cons_succ]
          refine WL.val (by kernel_rfl) (.slice pa LN.length pc) (by go_simp) ?_
          simp only [Act.put, List.setIfInBounds_toArray, List.set_cons_zero, List.set_cons_succ]
          refine WL.val (by kernel_rfl) (.int .i64 (LN.length : Int)) (by go_simp) ?_
          simp only [Act.put, List.setIfInBounds_toArray, List.set_cons_zero, List.set_cons_succ]
          refine WL.val (by kernel_rfl) (.bool false) (by go_simp) ?_
          simp only [Act.put, List.setIfInBounds_toArray, List.set_cons_zero, List.set_cons_succ]
          refine WL.val (by kernel_rfl) (.bool false) (by go_simp) ?_
          simp only [Act.put, List.setIfInBounds_toArray, List.set_cons_zero, List.set_cons_succ]
          refine WL.nil ?_
          refine hK36 _ _ ?_
          refine wp_cond_false rfl ?_
          refine wp_skip ?_
          refine hK35 _ _ ?_
          refine wp_seq_k fun K37 hK37 => ?_
          refine wp_region_list (WL.out ?_)
          refine WL.val (by kernel_rfl) (.bool true) (by go_simp) ?_
          simp only [Act.put, List.setIfInBounds_toArray, List.set_cons_zero, List.set_cons_succ]
          refine WL.val (by kernel_rfl) (.bool true) (by go_simp) ?_
          simp only [Act.put, List.setIfInBounds_toArray, List.set_cons_zero, List.set_cons_succ]
          refine WL.row (by kernel_rfl) 41 (.tmp 20) rfl g20 rfl 41 (erA 23 (L.length : Int)) _ HMg20.out Try.underlying41 rfl (Try.size41B _ _) ?_
          simp only [Act.put, List.setIfInBounds_toArray, List.set_cons_zero, List.set_cons_succ]
          refine WL.val (by kernel_rfl) (.slice (some ⟨ga, 0, none⟩) L.length L.length) (by go_simp) ?_
          simp only [Act.put, List.setIfInBounds_toArray, List.set_cons_zero, List.set_cons_succ]
          refine WL.val (by kernel_rfl) (.int .i64 (L.length : Int)) (by go_simp) ?_
          simp only [Act.put, List.setIfInBounds_toArray, List.set_cons_zero, List.set_cons_succ]
          refine WL.bld (by kernel_rfl) 41 _ rfl [(0, .int .i64 23), (1, .int .i64 (L.length : Int))] (by simp [Act.eval]) _ (er_built2 23 (L.length : Int)) ?_
          simp only [Act.put, List.setIfInBounds_toArray, List.set_cons_zero, List.set_cons_succ]
          refine WL.val (by kernel_rfl) (.bool true) (by unfold erA; go_simp) ?_
          simp only [Act.put, List.setIfInBounds_toArray, List.set_cons_zero, List.set_cons_succ]
          refine WL.val (by kernel_rfl) (.bool true) (by go_simp) ?_
          simp only [Act.put, List.setIfInBounds_toArray, List.set_cons_zero, List.set_cons_succ]
          refine WL.val (by kernel_rfl) (.bool true) (by go_simp) ?_
          simp only [Act.put, List.setIfInBounds_toArray, List.set_cons_zero, List.set_cons_succ]
          refine WL.row (by kernel_rfl) 28 (.tmp 18) rfl g18 rfl 28 (msA zeroC) _ HX13.out Try.underlying28 rfl (Try.size28B _) ?_
          simp only [Act.put, List.setIfInBounds_toArray, List.set_cons_zero, List.set_cons_succ]
          refine WL.bld (by kernel_rfl) 28 _ rfl [] (by simp) _ ms_built0 ?_
          simp only [Act.put, List.setIfInBounds_toArray, List.set_cons_zero, List.set_cons_succ]
          refine WL.callF (by kernel_rfl) 16 _ _ rfl Try.in16 #[.agg (msA zeroC), .agg (msA zeroC)] (by simp [Act.eval]) ?_
          refine (same_refl zeroM zeroM_ok zeroC zeroC w13 (zero_at _) (zero_at _)).mono ?_
          rintro e w15 ⟨rfl, hb15⟩
          refine ⟨_, rfl, ?_⟩
          have B15 : Keep (Below w.heap.size w w15) := ⟨B13.out.trans (hb15.mono B13.out.size)⟩
          clear hb15
          simp only [Act.put, List.setIfInBounds_toArray, List.set_cons_zero, List.set_cons_succ]
          refine WL.val (by kernel_rfl) (.bool true) (by go_simp) ?_
          simp only [Act.put, List.setIfInBounds_toArray, List.set_cons_zero, List.set_cons_succ]
          refine WL.val (by kernel_rfl) (.bool true) (by go_simp) ?_
          simp only [Act.put, List.setIfInBounds_toArray, List.set_cons_zero, List.set_cons_succ]
          refine WL.callF (by kernel_rfl) 9 _ _ rfl Try.in9 #[] (by simp [Act.eval]) ?_
          refine (fixed_any w15).mono ?_
          rintro e w14 ⟨rfl, hb14⟩
          refine ⟨_, rfl, ?_⟩
          have B14 : Keep (Below w.heap.size w w14) := ⟨B15.out.trans (hb14.mono B15.out.size)⟩
          clear hb14
          simp only [Act.put, List.setIfInBounds_toArray, List.set_cons_zero, List.set_cons_succ]
          refine WL.val (by kernel_rfl) (.bool true) (by go_simp) ?_
          simp only [Act.put, List.setIfInBounds_toArray, List.set_cons_zero, List.set_cons_succ]
          refine WL.val (by kernel_rfl) (.bool true) (by go_simp) ?_
          simp only [Act.put, List.setIfInBounds_toArray, List.set_cons_zero, List.set_cons_succ]
          refine WL.nil ?_
          refine hK37 _ _ ?_
          refine wp_ret ?_
          go_ret
          exact ⟨rfl, B14.out⟩
  · obtain rfl : v = .slice none 0 0 := by
      rcases hv with h | h
      · exact absurd h.1 hch
      · exact h.2
    clear hv
    simp only [Act.put, List.setIfInBounds_toArray, List.set_cons_zero, List.set_cons_succ]
    refine WL.val (by kernel_rfl) (.tuple #[.slice none 0 0, .int .i64 (chkM M)]) (by go_simp) ?_
    simp only [Act.put, List.setIfInBounds_toArray, List.set_cons_zero, List.set_cons_succ]
    refine WL.val (by kernel_rfl) (.slice none 0 0) (by go_simp) ?_
    simp only [Act.put, List.setIfInBounds_toArray, List.set_cons_zero, List.set_cons_succ]
    refine WL.val (by kernel_rfl) (.int .i64 (chkM M)) (by go_simp) ?_
    simp only [Act.put, List.setIfInBounds_toArray, List.set_cons_zero, List.set_cons_succ]
    refine WL.val (by kernel_rfl) (.slice none 0 0) (by go_simp) ?_
    simp only [Act.put, List.setIfInBounds_toArray, List.set_cons_zero, List.set_cons_succ]
    refine WL.val (by kernel_rfl) (.int .i64 (chkM M)) (by go_simp) ?_
    simp only [Act.put, List.setIfInBounds_toArray, List.set_cons_zero, List.set_cons_succ]
    refine WL.nil ?_
    refine hK2 _ _ ?_
    refine wp_seq_k fun K38 hK38 => ?_
    refine wp_seq_k fun K39 hK39 => ?_
    refine wp_region_list (WL.out ?_)
    refine WL.val (by kernel_rfl) (.int .i64 (chkM M)) (by go_simp) ?_
    simp only [Act.put, List.setIfInBounds_toArray, List.set_cons_zero, List.set_cons_succ]
    refine WL.val (by kernel_rfl) (.bool true) (by go_simp) ?_
    simp only [Act.put, List.setIfInBounds_toArray, List.set_cons_zero, List.set_cons_succ]
    refine WL.nil ?_
    refine hK39 _ _ ?_
    refine wp_cond_true rfl ?_
    refine wp_seq_k fun K40 hK40 => ?_
    refine wp_region_list (WL.out ?_)
    refine WL.val (by kernel_rfl) (.slice none 0 0) (by go_simp) ?_
    simp only [Act.put, List.setIfInBounds_toArray, List.set_cons_zero, List.set_cons_succ]
    refine WL.val (by kernel_rfl) (.int .i64 0) (by go_simp) ?_
    simp only [Act.put, List.setIfInBounds_toArray, List.set_cons_zero, List.set_cons_succ]
    refine WL.val (by kernel_rfl) (.bool true) (by go_simp) ?_
    simp only [Act.put, List.setIfInBounds_toArray, List.set_cons_zero, List.set_cons_succ]
    refine WL.val (by kernel_rfl) (.bool true) (by go_simp) ?_
    simp only [Act.put, List.setIfInBounds_toArray, List.set_cons_zero, List.set_cons_succ]
    refine WL.row (by kernel_rfl) 28 (.tmp 3) rfl g rfl 28 (msA c) _ HX2.out Try.underlying28 rfl (Try.size28B _) ?_
    simp only [Act.put, List.setIfInBounds_toArray, List.set_cons_zero, List.set_cons_succ]
    refine WL.callF (by kernel_rfl) 10 _ _ rfl Try.in10 #[.agg (msA c)] (by simp [Act.eval]) ?_
    refine (check_any M c w2 HA2.out HO.out).mono ?_
    rintro e w3 ⟨rfl, hb3⟩
    refine ⟨_, rfl, ?_⟩
    have B3 := Keep.mk hb3
    clear hb3
    simp only [Act.put, List.setIfInBounds_toArray, List.set_cons_zero, List.set_cons_succ]
    refine WL.val (by kernel_rfl) (.int .i64 (chkM M)) (by go_simp) ?_
    simp only [Act.put, List.setIfInBounds_toArray, List.set_cons_zero, List.set_cons_succ]
    refine WL.val (by kernel_rfl) (.bool true) (by go_simp) ?_
    simp only [Act.put, List.setIfInBounds_toArray, List.set_cons_zero, List.set_cons_succ]
    refine WL.val (by kernel_rfl) (.bool true) (by go_simp) ?_
    simp only [Act.put, List.setIfInBounds_toArray, List.set_cons_zero, List.set_cons_succ]
    refine WL.val (by kernel_rfl) (.bool true) (by go_simp) ?_
    simp only [Act.put, List.setIfInBounds_toArray, List.set_cons_zero, List.set_cons_succ]
    refine WL.callF (by kernel_rfl) 9 _ _ rfl Try.in9 #[] (by simp [Act.eval]) ?_
    refine (fixed_any w3).mono ?_
    rintro e w4 ⟨rfl, hb4⟩
    refine ⟨_, rfl, ?_⟩
    have B4 : Keep (Below w.heap.size w w4) := ⟨B2.out.trans ((B3.out.trans (hb4.mono B3.out.size)).mono B2.out.size)⟩
    clear hb4
    simp only [Act.put, List.setIfInBounds_toArray, List.set_cons_zero, List.set_cons_succ]
    refine WL.val (by kernel_rfl) (.bool true) (by go_simp) ?_
    simp only [Act.put, List.setIfInBounds_toArray, List.set_cons_zero, List.set_cons_succ]
    refine WL.val (by kernel_rfl) (.bool true) (by go_simp) ?_
    simp only [Act.put, List.setIfInBounds_toArray, List.set_cons_zero, List.set_cons_succ]
    refine WL.nil ?_
    refine hK40 _ _ ?_
    refine wp_ret ?_
    go_ret
    exact ⟨rfl, B4.out⟩
theorem Try.in12 (w : World) (vs : Array Value) : (callFunc 12 vs).run Try.prog w = .ok (.enter 12 vs) w := by kernel_rfl
theorem Try.in31 (w : World) (vs : Array Value) : (callFunc 31 vs).run Try.prog w = .ok (.enter 31 vs) w := by kernel_rfl
set_option maxRecDepth 8000 in
set_option maxHeartbeats 2000000 in
theorem rencode_bad (M : MsgV) (c : MC) (w : World) (hA : MsAt w M c) (hok : MsOk M) (hc : ¬ chkM M = 0) : Calls Try.prog 12 #[.agg (msA c)] w fun e w' => e = .returned (.tuple #[noS, .int .i64 (chkM M)]) ∧ Below w.heap.size w w' := by
  have HOk := Keep.mk hok
  have HA := Keep.mk hA
  clear hA hok
  go_enter Try.func12, Try.ntmps12
  refine wp_seq_k fun K1 hK1 => ?_
  refine wp_region_list (WL.out ?_)
  refine WL.box (by kernel_rfl) 28 (.tmp 0) rfl _ rfl ?_
  have HM1 := Keep.mk (Blk.new w 28 (msA c))
  have B1 := Keep.mk (below_new w (.cells (msA c) 28))
  have HA1 := Keep.mk (HA.out.below (below_new w (.cells (msA c) 28)))
  generalize w.alloc (.cells (msA c) 28) = w1 at *
  generalize w.heap.size = g at HM1 ⊢
  simp only [Act.put, List.setIfInBounds_toArray, List.set_cons_zero, List.set_cons_succ]
  refine WL.val (by kernel_rfl) (.slice none 0 0) (by go_simp) ?_
  simp only [Act.put, List.setIfInBounds_toArray, List.set_cons_zero, List.set_cons_succ]
  refine WL.val (by kernel_rfl) (.int .i64 0) (by go_simp) ?_
  simp only [Act.put, List.setIfInBounds_toArray, List.set_cons_zero, List.set_cons_succ]
  refine WL.nil ?_
  refine hK1 _ _ ?_
  refine wp_seq_k fun K2 hK2 => ?_
  refine wp_region_list (WL.out ?_)
  refine WL.row (by kernel_rfl) 28 (.tmp 1) rfl g rfl 28 (msA c) _ HM1.out Try.underlying28 rfl (Try.size28B _) ?_
  simp only [Act.put, List.setIfInBounds_toArray, List.set_cons_zero, List.set_cons_succ]
  refine WL.callF (by kernel_rfl) 29 _ _ rfl Try.in29 #[.agg (msA c)] (by simp [Act.eval]) ?_
  refine (rcheck_any M c w1 HA1.out HOk.out).mono ?_
  rintro e w2 ⟨rfl, hb2⟩
  refine ⟨_, rfl, ?_⟩
  have B2 : Keep (Below w.heap.size w w2) := ⟨B1.out.trans (hb2.mono B1.out.size)⟩
  clear hb2
  simp only [Act.put, List.setIfInBounds_toArray, List.set_cons_zero, List.set_cons_succ]
  refine WL.val (by kernel_rfl) (.int .i64 (chkM M)) (by go_simp) ?_
  simp only [Act.put, List.setIfInBounds_toArray, List.set_cons_zero, List.set_cons_succ]
  refine WL.nil ?_
  refine hK2 _ _ ?_
  refine wp_seq_k fun K3 hK3 => ?_
  refine wp_seq_k fun K4 hK4 => ?_
  refine wp_region_list (WL.out ?_)
  refine WL.val (by kernel_rfl) (.int .i64 (chkM M)) (by go_simp) ?_
  simp only [Act.put, List.setIfInBounds_toArray, List.set_cons_zero, List.set_cons_succ]
  refine WL.val (by kernel_rfl) (.bool true) (by go_simp) ?_
  simp only [Act.put, List.setIfInBounds_toArray, List.set_cons_zero, List.set_cons_succ]
  refine WL.nil ?_
  refine hK4 _ _ ?_
  refine wp_cond_true rfl ?_
  refine wp_seq_k fun K5 hK5 => ?_
  refine wp_region_list (WL.out ?_)
  refine WL.val (by kernel_rfl) (.int .i64 (chkM M)) (by go_simp) ?_
  simp only [Act.put, List.setIfInBounds_toArray, List.set_cons_zero, List.set_cons_succ]
  refine WL.val (by kernel_rfl) (.slice none 0 0) (by go_simp) ?_
  simp only [Act.put, List.setIfInBounds_toArray, List.set_cons_zero, List.set_cons_succ]
  refine WL.val (by kernel_rfl) (.int .i64 (chkM M)) (by go_simp) ?_
  simp only [Act.put, List.setIfInBounds_toArray, List.set_cons_zero, List.set_cons_succ]
  refine WL.nil ?_
  refine hK5 _ _ ?_
  refine wp_ret ?_
  go_ret2
  exact ⟨rfl, B2.out⟩
theorem bsK (c : Int) (w : World) : (Instr.buildSlice 25 1 #[(0, .int .u8 c)]).run Try.prog w = .ok (.slice (some ⟨w.heap.size, 0, none⟩) 1 1) (w.alloc (.cells (bv [c]).toArray 5)) := by kernel_rfl
theorem obK (c : Int) (w : World) : OB w (.slice (some ⟨w.heap.size, 0, none⟩) 1 1) [c] (w.alloc (.cells (bv [c]).toArray 5)) :=
  ⟨own_done w [c] (by simp), fun k hk => by simp [Value.ownBlock] at hk; omega, below_new w _⟩
theorem OB.cast {w0 w : World} {v : Value} {l l' : List Int} (h : OB w0 v l w) (e : l = l') : OB w0 v l' w := e ▸ h
theorem own_castL {w : World} {v : Value} {l l' : List Int} (h : Own w v l) (e : l = l') : Own w v l' := e ▸ h
theorem hasI1 {k : Int} (h : k = 1) : hasI k = [0, 1, 2, 3] := by subst h; rfl
theorem hasI2 {k : Int} (h : k = 2) : hasI k = [3] := by subst h; rfl
theorem hasI3 {k : Int} (h : k = 3) : hasI k = [4] := by subst h; rfl
set_option maxRecDepth 8000 in
set_option maxHeartbeats 4000000 in
theorem rencode_good (M : MsgV) (c : MC) (w : World) (hA : MsAt w M c) (hok : MsOk M) (hc : chkM M = 0) : Calls Try.prog 12 #[.agg (msA c)] w fun e w' => ∃ v, e = .returned (.tuple #[v, .int .i64 0]) ∧ OB w v (encM M) w' := by
  obtain ⟨ha, hk, e1⟩ := hA.hd.form
  obtain ⟨ba, bk, e2⟩ := row_form hA.bl
  obtain ⟨wa, wk, e3⟩ := hA.wt.form
  obtain ⟨xa, xk, e4⟩ := hA.bk.form
  have E1 := Keep.mk e1
  have E3 := Keep.mk e2
  have E4 := Keep.mk e3
  have E5 := Keep.mk e4
  have Ek := Keep.mk hA.k
  have HA := Keep.mk hA
  have Es := Keep.mk hA.s
  have HOk := Keep.mk hok
  have HC := Keep.mk hc
  obtain ⟨f1, f2, f3, f4, f5, f6, f7, f8, f9, f10, f11⟩ := chk_facts hc
  have hkr := hasI_cases f1
  have HOR : Keep (okR M.bk = true) := ⟨by simpa using f10⟩
  have HBl : Keep (M.k = 1 → 0 < M.bl.length) := ⟨fun h => by
    rcases Bool.eq_false_or_eq_true (isP (M.bl.length : Int)) with hh | hh
    · have := isP_rng hh; omega
    · exact absurd ⟨h, hh⟩ f9⟩
  have hwk : IntKind.u8.wrap M.k = M.k := by rw [IntKind.wrap_u8]; omega
  have hsr := hok.s
  clear hA hok hc e1 e2 e3 e4 f1 f2 f6 f7 f8 f9 f10 f11
  go_enter Try.func12, Try.ntmps12
  refine wp_seq_k fun K1 hK1 => ?_
  refine wp_region_list (WL.out ?_)
  refine WL.box (by kernel_rfl) 28 (.tmp 0) rfl _ rfl ?_
  have HM1 := Keep.mk (Blk.new w 28 (msA c))
  have B1 := Keep.mk (below_new w (.cells (msA c) 28))
  have HA1 := Keep.mk (HA.out.below (below_new w (.cells (msA c) 28)))
  generalize w.alloc (.cells (msA c) 28) = w1 at *
  generalize w.heap.size = g at HM1 ⊢
  simp only [Act.put, List.setIfInBounds_toArray, List.set_cons_zero, List.set_cons_succ]
  refine WL.val (by kernel_rfl) (.slice none 0 0) (by go_simp) ?_
  simp only [Act.put, List.setIfInBounds_toArray, List.set_cons_zero, List.set_cons_succ]
  refine WL.val (by kernel_rfl) (.int .i64 0) (by go_simp) ?_
  simp only [Act.put, List.setIfInBounds_toArray, List.set_cons_zero, List.set_cons_succ]
  refine WL.nil ?_
  refine hK1 _ _ ?_
  refine wp_seq_k fun K2 hK2 => ?_
  refine wp_region_list (WL.out ?_)
  refine WL.row (by kernel_rfl) 28 (.tmp 1) rfl g rfl 28 (msA c) _ HM1.out Try.underlying28 rfl (Try.size28B _) ?_
  simp only [Act.put, List.setIfInBounds_toArray, List.set_cons_zero, List.set_cons_succ]
  refine WL.callF (by kernel_rfl) 29 _ _ rfl Try.in29 #[.agg (msA c)] (by simp [Act.eval]) ?_
  refine (rcheck_any M c w1 HA1.out HOk.out).mono ?_
  rintro e w2 ⟨rfl, hb2⟩
  refine ⟨_, rfl, ?_⟩
  rw [HC.out]
  have B2 : Keep (Below w.heap.size w w2) := ⟨B1.out.trans (hb2.mono B1.out.size)⟩
  have HM2 := Keep.mk (HM1.out.below hb2 HM1.out.lt)
  have HA2 := Keep.mk (HA1.out.below hb2)
  clear hb2
  have d0 := HM2.out.c 0 (ms_0 c)
  rw [Ek.out] at d0
  simp only [Act.put, List.setIfInBounds_toArray, List.set_cons_zero, List.set_cons_succ]
  refine WL.val (by kernel_rfl) (.int .i64 0) (by go_simp) ?_
  simp only [Act.put, List.setIfInBounds_toArray, List.set_cons_zero, List.set_cons_succ]
  refine WL.nil ?_
  refine hK2 _ _ ?_
  refine wp_seq_k fun K3 hK3 => ?_
  refine wp_seq_k fun K4 hK4 => ?_
  refine wp_region_list (WL.out ?_)
  refine WL.val (by kernel_rfl) (.int .i64 0) (by go_simp) ?_
  simp only [Act.put, List.setIfInBounds_toArray, List.set_cons_zero, List.set_cons_succ]
  refine WL.val (by kernel_rfl) (.bool false) (by go_simp) ?_
  simp only [Act.put, List.setIfInBounds_toArray, List.set_cons_zero, List.set_cons_succ]
  refine WL.nil ?_
  refine hK4 _ _ ?_
  refine wp_cond_false rfl ?_
  refine wp_skip ?_
  refine hK3 _ _ ?_
  refine wp_seq_k fun K5 hK5 => ?_
  refine wp_region_list (WL.out ?_)
  refine WL.val (by kernel_rfl) (.pointer (some ⟨g, 0, none⟩)) (by go_simp) ?_
  simp only [Act.put, List.setIfInBounds_toArray, List.set_cons_zero, List.set_cons_succ]
  refine WL.val (by kernel_rfl) (.int .i64 M.k) (by go_simp) ?_
  simp only [Act.put, List.setIfInBounds_toArray, List.set_cons_zero, List.set_cons_succ]
  refine WL.val (by kernel_rfl) (.int .u8 M.k) (by go_simp) ?_
  simp only [Act.put, List.setIfInBounds_toArray, List.set_cons_zero, List.set_cons_succ]
  refine WL.bs (by kernel_rfl) 25 1 _ rfl #[(0, .int .u8 M.k)] (by simp [Act.eval]) _ _ (bsK M.k w2) ?_
  have O3 := Keep.mk (obK M.k w2)
  generalize w2.alloc (.cells (bv [M.k]).toArray 5) = w3 at *
  generalize Value.slice (some ⟨w2.heap.size, 0, none⟩) 1 1 = v3 at *
  clear d0
  have d0 := (HM2.out.below O3.out.bel HM2.out.lt).c 0 (ms_0 c)
  rw [Ek.out] at d0
  have d1 := (HM2.out.below O3.out.bel HM2.out.lt).c 1 (ms_1 c)
  rw [E1.out] at d1
  have d4 := (HM2.out.below O3.out.bel HM2.out.lt).c 4 (ms_4 c)
  rw [E4.out] at d4
  have d5 := (HM2.out.below O3.out.bel HM2.out.lt).c 5 (ms_5 c)
  rw [E5.out] at d5
  simp only [Act.put, List.setIfInBounds_toArray, List.set_cons_zero, List.set_cons_succ]
  refine WL.val (by kernel_rfl) (v3) (by go_simp) ?_
  simp only [Act.put, List.setIfInBounds_toArray, List.set_cons_zero, List.set_cons_succ]
  refine WL.nil ?_
  refine hK5 _ _ ?_
  refine wp_seq_k fun K6 hK6 => ?_
  refine wp_seq_k fun K7 hK7 => ?_
  refine wp_region_list (WL.out ?_)
  refine WL.val (by kernel_rfl) (.pointer (some ⟨g, 0, none⟩)) (by go_simp) ?_
  simp only [Act.put, List.setIfInBounds_toArray, List.set_cons_zero, List.set_cons_succ]
  refine WL.val (by kernel_rfl) (.int .i64 M.k) (by go_simp) ?_
  simp only [Act.put, List.setIfInBounds_toArray, List.set_cons_zero, List.set_cons_succ]
  refine WL.nil ?_
  refine hK7 _ _ ?_
  refine wp_block ?_
  refine wp_seq_k fun K8 hK8 => ?_
  refine wp_region_list (WL.out ?_)
  by_cases h11_0 : M.k = 1
  · skip
    refine WL.val (by kernel_rfl) (.bool true) (by go_simp) ?_
    simp only [Act.put, List.setIfInBounds_toArray, List.set_cons_zero, List.set_cons_succ]
    refine WL.val (by kernel_rfl) (.bool true) (by go_simp) ?_
    simp only [Act.put, List.setIfInBounds_toArray, List.set_cons_zero, List.set_cons_succ]
    refine WL.nil ?_
    refine hK8 _ _ ?_
    refine wp_cond_true rfl ?_
    refine wp_seq_k fun K9 hK9 => ?_
    have HEn : Keep (([M.k] ++ hsL M.hd ++ saltP M.sa 8 ++ bform M.bl ++ hsL M.wt).length ≤ 2097152) := ⟨by have h := enc_max HC.out; rw [encM, hasI1 (by assumption)] at h; simpa [putF, List.append_assoc] using h⟩
    refine wp_region_list (WL.out ?_)
    refine WL.val (by kernel_rfl) (v3) (by go_simp) ?_
    simp only [Act.put, List.setIfInBounds_toArray, List.set_cons_zero, List.set_cons_succ]
    refine WL.val (by kernel_rfl) (.pointer (some ⟨g, 1, none⟩)) (by go_simp) ?_
    simp only [Act.put, List.setIfInBounds_toArray, List.set_cons_zero, List.set_cons_succ]
    refine WL.val (by kernel_rfl) (.slice ha M.hd.length hk) (by go_simp) ?_
    simp only [Act.put, List.setIfInBounds_toArray, List.set_cons_zero, List.set_cons_succ]
    have HC44 := Keep.mk (rhashes_any v3 ([M.k]) (.slice ha M.hd.length hk) M.hd w2 w3 O3.out (by have h := HA2.out.hd; rw [E1.out] at h; exact h) (by omega) (by have h := HEn.out; simp only [List.length_append, List.length_cons, List.length_nil, salt_len] at *; omega))
    refine WL.callF (by kernel_rfl) 30 _ _ rfl Try.in30 #[v3, .slice ha M.hd.length hk] (by simp [Act.eval]) ?_
    refine (HC44.out).mono ?_
    rintro e w4 ⟨v4, rfl, h1⟩
    refine ⟨_, rfl, ?_⟩
    have O4 := Keep.mk h1
    clear h1 HC44
    clear d0 d1 d4 d5
    simp only [Act.put, List.setIfInBounds_toArray, List.set_cons_zero, List.set_cons_succ]
    refine WL.val (by kernel_rfl) (v4) (by go_simp) ?_
    simp only [Act.put, List.setIfInBounds_toArray, List.set_cons_zero, List.set_cons_succ]
    refine WL.nil ?_
    refine hK9 _ _ ?_
    refine wp_seq_k fun K10 hK10 => ?_
    refine wp_seq_k fun K11 hK11 => ?_
    refine wp_region_list (WL.out ?_)
    refine WL.val (by kernel_rfl) (.int .i64 0) (by go_simp) ?_
    simp only [Act.put, List.setIfInBounds_toArray, List.set_cons_zero, List.set_cons_succ]
    refine WL.nil ?_
    refine hK11 _ _ ?_
    refine wp_block ?_
    refine wp_loop (fun ac wr => ∃ (t : Nat) (u5 u45 u46 u47 u48 u49 u50 u51 u52 u53 u54 u55 u56 u57 : Value), ac = { tmps := #[.agg (msA c), .pointer (some ⟨g, 0, none⟩), .slice none 0 0, .int .i64 0, .int .i64 0, u5, .int .i64 (t : Int), undef, .agg (msA c), .int .i64 0, .int .i64 0, .bool false, undef, .pointer (some ⟨g, 0, none⟩), .int .i64 M.k, .int .u8 M.k, v3, .pointer (some ⟨g, 0, none⟩), .int .i64 M.k, undef, undef, undef, undef, undef, undef, undef, undef, undef, undef, undef, undef, undef, undef, undef, undef, undef, undef, undef, undef, .bool true, .bool true, v3, .pointer (some ⟨g, 1, none⟩), .slice ha M.hd.length hk, v4, u45, u46, u47, u48, u49, u50, u51, u52, u53, u54, u55, u56, u57, undef, undef, undef, undef, undef, undef, undef, undef, undef, undef, undef, undef, undef, undef, undef], defers := [] } ∧ t ≤ 8 ∧ Keep (OB w2 u5 ([M.k] ++ hsL M.hd ++ saltP M.sa t) wr)) (fun a _ => 8 - (intOf (a.tmps.getD 6 undef)).toNat) ⟨0, v4, undef, undef, undef, undef, undef, undef, undef, undef, undef, undef, undef, undef, undef, rfl, by omega, ⟨O4.out.cast (by simp [saltP])⟩⟩ ?_
    rintro ac wr ⟨t, u5, u45, u46, u47, u48, u49, u50, u51, u52, u53, u54, u55, u56, u57, rfl, ht, HPr⟩
    have d2 := (HM2.out.below HPr.out.bel HM2.out.lt).c 2 (ms_2 c)
    rw [Es.out] at d2
    by_cases hlt : t < 8
    · have hlt' : (t : Int) < 8 := by omega
      have hwt1 : IntKind.i64.wrap ((t : Int) + 1) = (t : Int) + 1 := by rw [IntKind.wrap_i64]; omega
      have hw8t : IntKind.i64.wrap (8 * (t : Int)) = 8 * (t : Int) := by rw [IntKind.wrap_i64]; omega
      obtain ⟨y, hy⟩ : ∃ y, y = M.sa / 256 ^ t := ⟨_, rfl⟩
      have Hy := Keep.mk hy
      have hyr : 0 ≤ y ∧ y < 18446744073709551616 := by rw [hy]; exact salt_rng M.sa t HOk.out.s
      clear hy
      have hw8 : IntKind.u8.wrap y = y % 256 := by rw [IntKind.wrap_u8]
      have H8 : Keep (t < 8) := ⟨hlt⟩
      refine wp_seq_k fun K12 hK12 => ?_
      refine wp_seq_k fun K13 hK13 => ?_
      refine wp_region_list (WL.out ?_)
      refine WL.val (by kernel_rfl) (.int .i64 (t : Int)) (by go_simp) ?_
      simp only [Act.put, List.setIfInBounds_toArray, List.set_cons_zero, List.set_cons_succ]
      refine WL.val (by kernel_rfl) (.bool true) (by go_simp) ?_
      simp only [Act.put, List.setIfInBounds_toArray, List.set_cons_zero, List.set_cons_succ]
      refine WL.nil ?_
      refine hK13 _ _ ?_
      refine wp_cond_true rfl ?_
      refine wp_skip ?_
      refine hK12 _ _ ?_
      refine wp_seq_k fun K14 hK14 => ?_
      refine wp_block ?_
      refine wp_region_list (WL.out ?_)
      refine WL.val (by kernel_rfl) (u5) (by go_simp) ?_
      simp only [Act.put, List.setIfInBounds_toArray, List.set_cons_zero, List.set_cons_succ]
      refine WL.val (by kernel_rfl) (.pointer (some ⟨g, 2, none⟩)) (by go_simp) ?_
      simp only [Act.put, List.setIfInBounds_toArray, List.set_cons_zero, List.set_cons_succ]
      refine WL.val (by kernel_rfl) (.int .u64 M.sa) (by go_simp) ?_
      simp only [Act.put, List.setIfInBounds_toArray, List.set_cons_zero, List.set_cons_succ]
      refine WL.val (by kernel_rfl) (.int .i64 (t : Int)) (by go_simp) ?_
      simp only [Act.put, List.setIfInBounds_toArray, List.set_cons_zero, List.set_cons_succ]
      refine WL.val (by kernel_rfl) (.int .i64 (8 * (t : Int))) (by go_simp) ?_
      simp only [Act.put, List.setIfInBounds_toArray, List.set_cons_zero, List.set_cons_succ]
      refine WL.val (by kernel_rfl) (.int .u64 y) (by
        have h8 : t = 0 ∨ t = 1 ∨ t = 2 ∨ t = 3 ∨ t = 4 ∨ t = 5 ∨ t = 6 ∨ t = 7 := by have := H8.out; omega
        have hy := Hy.out
        clear hyr hw8
        rcases h8 with rfl | rfl | rfl | rfl | rfl | rfl | rfl | rfl <;> (subst hy; go_simp)) ?_
      simp only [Act.put, List.setIfInBounds_toArray, List.set_cons_zero, List.set_cons_succ]
      refine WL.val (by kernel_rfl) (.int .u8 (y % 256)) (by go_simp) ?_
      simp only [Act.put, List.setIfInBounds_toArray, List.set_cons_zero, List.set_cons_succ]
      refine WL.bs (by kernel_rfl) 25 1 _ rfl #[(0, .int .u8 (y % 256))] (by simp [Act.eval]) _ _ (bsK (y % 256) wr) ?_
      have OK1 := Keep.mk (obK (y % 256) wr)
      have HPk : Keep (OB w2 u5 ([M.k] ++ hsL M.hd ++ saltP M.sa t) (wr.alloc (.cells (bv [y % 256]).toArray 5))) := ⟨⟨HPr.out.own.box _, HPr.out.new, HPr.out.bel.trans (OK1.out.bel.mono HPr.out.bel.size)⟩⟩
      generalize wr.alloc (.cells (bv [y % 256]).toArray 5) = wk1 at *
      generalize Value.slice (some ⟨wr.heap.size, 0, none⟩) 1 1 = vk1 at *
      simp only [Act.put, List.setIfInBounds_toArray, List.set_cons_zero, List.set_cons_succ]
      refine WL.appW (by kernel_rfl) (.tmp 49) (.tmp 56) rfl u5 vk1 _ [y % 256] rfl rfl HPk.out.own OK1.out.own.row (by have h := HEn.out; simp only [List.length_append, List.length_cons, List.length_nil, salt_len] at h ⊢; omega) ?_
      intro vz wz ha1
      have HP3 : Keep (OB w2 vz ([M.k] ++ hsL M.hd ++ saltP M.sa (t + 1)) wz) := ⟨(HPk.out.step ha1.1 ha1.moved ha1.grown).cast (by rw [salt_step, ← Hy.out]; simp only [List.append_assoc])⟩
      clear ha1
      simp only [Act.put, List.setIfInBounds_toArray, List.set_cons_zero, List.set_cons_succ]
      refine WL.val (by kernel_rfl) (vz) (by go_simp) ?_
      simp only [Act.put, List.setIfInBounds_toArray, List.set_cons_zero, List.set_cons_succ]
      refine WL.nil ?_
      refine hK14 _ _ ?_
      refine wp_region_list (WL.out ?_)
      refine WL.val (by kernel_rfl) (.int .i64 (t : Int)) (by go_simp) ?_
      simp only [Act.put, List.setIfInBounds_toArray, List.set_cons_zero, List.set_cons_succ]
      refine WL.val (by kernel_rfl) (.int .i64 ((t : Int) + 1)) (by go_simp) ?_
      simp only [Act.put, List.setIfInBounds_toArray, List.set_cons_zero, List.set_cons_succ]
      refine WL.val (by kernel_rfl) (.int .i64 ((t : Int) + 1)) (by go_simp) ?_
      simp only [Act.put, List.setIfInBounds_toArray, List.set_cons_zero, List.set_cons_succ]
      refine WL.nil ?_
      refine ⟨⟨t + 1, vz, .int .i64 (t : Int), .bool true, .int .i64 (t : Int), .int .i64 ((t : Int) + 1), u5, .pointer (some ⟨g, 2, none⟩), .int .u64 M.sa, .int .i64 (t : Int), .int .i64 (8 * (t : Int)), .int .u64 y, .int .u8 (y % 256), vk1, vz, rfl, by omega, HP3⟩, by simp [intOf]; omega⟩
    · have hte : t = 8 := by omega
      have hlt' : ¬ (t : Int) < 8 := by omega
      rw [hte] at HPr
      clear d2
      have d3 := (HM2.out.below HPr.out.bel HM2.out.lt).c 3 (ms_3 c)
      rw [E3.out] at d3
      refine wp_seq_k fun K15 hK15 => ?_
      refine wp_seq_k fun K16 hK16 => ?_
      refine wp_region_list (WL.out ?_)
      refine WL.val (by kernel_rfl) (.int .i64 (t : Int)) (by go_simp) ?_
      simp only [Act.put, List.setIfInBounds_toArray, List.set_cons_zero, List.set_cons_succ]
      refine WL.val (by kernel_rfl) (.bool false) (by go_simp) ?_
      simp only [Act.put, List.setIfInBounds_toArray, List.set_cons_zero, List.set_cons_succ]
      refine WL.nil ?_
      refine hK16 _ _ ?_
      refine wp_cond_false rfl ?_
      refine wp_exit ?_
      refine hK10 _ _ ?_
      refine wp_seq_k fun K17 hK17 => ?_
      refine wp_region_list (WL.out ?_)
      refine WL.val (by kernel_rfl) (u5) (by go_simp) ?_
      simp only [Act.put, List.setIfInBounds_toArray, List.set_cons_zero, List.set_cons_succ]
      refine WL.val (by kernel_rfl) (.pointer (some ⟨g, 3, none⟩)) (by go_simp) ?_
      simp only [Act.put, List.setIfInBounds_toArray, List.set_cons_zero, List.set_cons_succ]
      refine WL.val (by kernel_rfl) (.slice ba M.bl.length bk) (by go_simp) ?_
      simp only [Act.put, List.setIfInBounds_toArray, List.set_cons_zero, List.set_cons_succ]
      refine WL.callF (by kernel_rfl) 31 _ _ rfl Try.in31 #[u5, .slice ba M.bl.length bk] (by simp [Act.eval]) ?_
      refine (rbytes_any u5 _ _ M.bl wr HPr.out.own (by have h := HA2.out.bl.below HPr.out.bel; rw [E3.out] at h; exact h) (fun k hk ho => by have h1 := row_lt (by have h := HA2.out.bl; rw [E3.out] at h; exact h) (HBl.out (by assumption)) hk; have := HPr.out.new k ho; omega) (by have h := HEn.out; simp only [List.length_append, List.length_cons, List.length_nil, salt_len] at h ⊢; omega)).mono ?_
      rintro e w6 ⟨v6, rfl, h1, h2, h4⟩
      refine ⟨_, rfl, ?_⟩
      have O6 := Keep.mk (HPr.out.step h1 h2 h4)
      clear h1 h2 h4 d3
      have d4 := (HM2.out.below O6.out.bel HM2.out.lt).c 4 (ms_4 c)
      rw [E4.out] at d4
      simp only [Act.put, List.setIfInBounds_toArray, List.set_cons_zero, List.set_cons_succ]
      refine WL.val (by kernel_rfl) (v6) (by go_simp) ?_
      simp only [Act.put, List.setIfInBounds_toArray, List.set_cons_zero, List.set_cons_succ]
      refine WL.nil ?_
      refine hK17 _ _ ?_
      refine wp_region_list (WL.out ?_)
      refine WL.val (by kernel_rfl) (v6) (by go_simp) ?_
      simp only [Act.put, List.setIfInBounds_toArray, List.set_cons_zero, List.set_cons_succ]
      refine WL.val (by kernel_rfl) (.pointer (some ⟨g, 4, none⟩)) (by go_simp) ?_
      simp only [Act.put, List.setIfInBounds_toArray, List.set_cons_zero, List.set_cons_succ]
      refine WL.val (by kernel_rfl) (.slice wa M.wt.length wk) (by go_simp) ?_
      simp only [Act.put, List.setIfInBounds_toArray, List.set_cons_zero, List.set_cons_succ]
      have HC65 := Keep.mk (rhashes_any v6 ([M.k] ++ hsL M.hd ++ saltP M.sa 8 ++ bform M.bl) (.slice wa M.wt.length wk) M.wt w2 w6 O6.out (by have h := HA2.out.wt; rw [E4.out] at h; exact h) (by omega) (by have h := HEn.out; simp only [List.length_append, List.length_cons, List.length_nil, salt_len] at *; omega))
      refine WL.callF (by kernel_rfl) 30 _ _ rfl Try.in30 #[v6, .slice wa M.wt.length wk] (by simp [Act.eval]) ?_
      refine (HC65.out).mono ?_
      rintro e w7 ⟨v7, rfl, h1⟩
      refine ⟨_, rfl, ?_⟩
      have O7 := Keep.mk h1
      clear h1 HC65
      simp only [Act.put, List.setIfInBounds_toArray, List.set_cons_zero, List.set_cons_succ]
      refine WL.val (by kernel_rfl) (v7) (by go_simp) ?_
      simp only [Act.put, List.setIfInBounds_toArray, List.set_cons_zero, List.set_cons_succ]
      refine WL.nil ?_
      refine hK6 _ _ ?_
      refine wp_seq_k fun K18 hK18 => ?_
      refine wp_region_list (WL.out ?_)
      refine WL.val (by kernel_rfl) (v7) (by go_simp) ?_
      simp only [Act.put, List.setIfInBounds_toArray, List.set_cons_zero, List.set_cons_succ]
      refine WL.val (by kernel_rfl) (v7) (by go_simp) ?_
      simp only [Act.put, List.setIfInBounds_toArray, List.set_cons_zero, List.set_cons_succ]
      refine WL.val (by kernel_rfl) (.int .i64 0) (by go_simp) ?_
      simp only [Act.put, List.setIfInBounds_toArray, List.set_cons_zero, List.set_cons_succ]
      refine WL.nil ?_
      refine hK18 _ _ ?_
      refine wp_ret ?_
      go_ret2
      exact ⟨_, rfl, own_castL O7.out.own (by rw [encM, hasI1 (by assumption)]; simp [putF, bkL, List.append_assoc]), fun k hk => Nat.le_trans B2.out.size (O7.out.new k hk), B2.out.trans (O7.out.bel.mono B2.out.size)⟩
  · skip
    refine WL.val (by kernel_rfl) (.bool false) (by go_simp) ?_
    simp only [Act.put, List.setIfInBounds_toArray, List.set_cons_zero, List.set_cons_succ]
    refine WL.val (by kernel_rfl) (.bool false) (by go_simp) ?_
    simp only [Act.put, List.setIfInBounds_toArray, List.set_cons_zero, List.set_cons_succ]
    refine WL.nil ?_
    refine hK8 _ _ ?_
    refine wp_cond_false rfl ?_
    refine wp_seq_k fun K19 hK19 => ?_
    refine wp_region_list (WL.out ?_)
    by_cases h19_0 : M.k = 2
    · skip
      refine WL.val (by kernel_rfl) (.bool true) (by go_simp) ?_
      simp only [Act.put, List.setIfInBounds_toArray, List.set_cons_zero, List.set_cons_succ]
      refine WL.val (by kernel_rfl) (.bool true) (by go_simp) ?_
      simp only [Act.put, List.setIfInBounds_toArray, List.set_cons_zero, List.set_cons_succ]
      refine WL.nil ?_
      refine hK19 _ _ ?_
      refine wp_cond_true rfl ?_
      have HEn : Keep (([M.k] ++ hsL M.wt).length ≤ 2097152) := ⟨by have h := enc_max HC.out; rw [encM, hasI2 (by assumption)] at h; simpa [putF, List.append_assoc] using h⟩
      refine wp_region_list (WL.out ?_)
      refine WL.val (by kernel_rfl) (v3) (by go_simp) ?_
      simp only [Act.put, List.setIfInBounds_toArray, List.set_cons_zero, List.set_cons_succ]
      refine WL.val (by kernel_rfl) (.pointer (some ⟨g, 4, none⟩)) (by go_simp) ?_
      simp only [Act.put, List.setIfInBounds_toArray, List.set_cons_zero, List.set_cons_succ]
      refine WL.val (by kernel_rfl) (.slice wa M.wt.length wk) (by go_simp) ?_
      simp only [Act.put, List.setIfInBounds_toArray, List.set_cons_zero, List.set_cons_succ]
      have HC71 := Keep.mk (rhashes_any v3 ([M.k]) (.slice wa M.wt.length wk) M.wt w2 w3 O3.out (by have h := HA2.out.wt; rw [E4.out] at h; exact h) (by omega) (by have h := HEn.out; simp only [List.length_append, List.length_cons, List.length_nil, salt_len] at *; omega))
      refine WL.callF (by kernel_rfl) 30 _ _ rfl Try.in30 #[v3, .slice wa M.wt.length wk] (by simp [Act.eval]) ?_
      refine (HC71.out).mono ?_
      rintro e w4 ⟨v4, rfl, h1⟩
      refine ⟨_, rfl, ?_⟩
      have O4 := Keep.mk h1
      clear h1 HC71
      simp only [Act.put, List.setIfInBounds_toArray, List.set_cons_zero, List.set_cons_succ]
      refine WL.val (by kernel_rfl) (v4) (by go_simp) ?_
      simp only [Act.put, List.setIfInBounds_toArray, List.set_cons_zero, List.set_cons_succ]
      refine WL.nil ?_
      refine hK6 _ _ ?_
      refine wp_seq_k fun K20 hK20 => ?_
      refine wp_region_list (WL.out ?_)
      refine WL.val (by kernel_rfl) (v4) (by go_simp) ?_
      simp only [Act.put, List.setIfInBounds_toArray, List.set_cons_zero, List.set_cons_succ]
      refine WL.val (by kernel_rfl) (v4) (by go_simp) ?_
      simp only [Act.put, List.setIfInBounds_toArray, List.set_cons_zero, List.set_cons_succ]
      refine WL.val (by kernel_rfl) (.int .i64 0) (by go_simp) ?_
      simp only [Act.put, List.setIfInBounds_toArray, List.set_cons_zero, List.set_cons_succ]
      refine WL.nil ?_
      refine hK20 _ _ ?_
      refine wp_ret ?_
      go_ret2
      exact ⟨_, rfl, own_castL O4.out.own (by rw [encM, hasI2 (by assumption)]; simp [putF, bkL, List.append_assoc]), fun k hk => Nat.le_trans B2.out.size (O4.out.new k hk), B2.out.trans (O4.out.bel.mono B2.out.size)⟩
    · skip
      refine WL.val (by kernel_rfl) (.bool false) (by go_simp) ?_
      simp only [Act.put, List.setIfInBounds_toArray, List.set_cons_zero, List.set_cons_succ]
      refine WL.val (by kernel_rfl) (.bool false) (by go_simp) ?_
      simp only [Act.put, List.setIfInBounds_toArray, List.set_cons_zero, List.set_cons_succ]
      refine WL.nil ?_
      refine hK19 _ _ ?_
      refine wp_cond_false rfl ?_
      refine wp_seq_k fun K21 hK21 => ?_
      have h3 : M.k = 3 := by omega
      have HEn : Keep (([M.k] ++ bkL M.bk).length ≤ 2097152) := ⟨by have h := enc_max HC.out; rw [encM, hasI3 h3] at h; simpa [putF, List.append_assoc] using h⟩
      have hw6 : IntKind.u64.wrap (M.bk.length : Int) = (M.bk.length : Int) := by rw [IntKind.wrap_u64]; omega
      refine wp_region_list (WL.out ?_)
      refine WL.val (by kernel_rfl) (v3) (by go_simp) ?_
      simp only [Act.put, List.setIfInBounds_toArray, List.set_cons_zero, List.set_cons_succ]
      refine WL.val (by kernel_rfl) (.pointer (some ⟨g, 5, none⟩)) (by go_simp) ?_
      simp only [Act.put, List.setIfInBounds_toArray, List.set_cons_zero, List.set_cons_succ]
      refine WL.val (by kernel_rfl) (.slice xa M.bk.length xk) (by go_simp) ?_
      simp only [Act.put, List.setIfInBounds_toArray, List.set_cons_zero, List.set_cons_succ]
      refine WL.val (by kernel_rfl) (.int .i64 (M.bk.length : Int)) (by go_simp) ?_
      simp only [Act.put, List.setIfInBounds_toArray, List.set_cons_zero, List.set_cons_succ]
      refine WL.val (by kernel_rfl) (.int .u64 (M.bk.length : Int)) (by go_simp) ?_
      simp only [Act.put, List.setIfInBounds_toArray, List.set_cons_zero, List.set_cons_succ]
      refine WL.callF (by kernel_rfl) 32 _ _ rfl Try.in32 #[v3, .int .u64 (M.bk.length : Int)] (by simp [Act.eval]) ?_
      refine (rnum_any v3 [M.k] M.bk.length w3 O3.out.own (by omega) (by have h := HEn.out; unfold bkL at h; simp only [List.length_append, List.length_cons, List.length_nil, salt_len] at *; omega)).mono ?_
      rintro e w4 ⟨v4, rfl, h1, h2, h4⟩
      refine ⟨_, rfl, ?_⟩
      have O4 : Keep (OB w2 v4 ([M.k] ++ (numL M.bk.length ++ (M.bk.take 0).flatMap bform)) w4) := ⟨(O3.out.step h1 h2 h4).cast (by simp)⟩
      clear h1 h2 h4 d0 d1 d4 d5
      simp only [Act.put, List.setIfInBounds_toArray, List.set_cons_zero, List.set_cons_succ]
      refine WL.val (by kernel_rfl) (v4) (by go_simp) ?_
      simp only [Act.put, List.setIfInBounds_toArray, List.set_cons_zero, List.set_cons_succ]
      refine WL.nil ?_
      refine hK21 _ _ ?_
      refine wp_seq_k fun K22 hK22 => ?_
      refine wp_region_list (WL.out ?_)
      refine WL.val (by kernel_rfl) (.int .i64 0) (by go_simp) ?_
      simp only [Act.put, List.setIfInBounds_toArray, List.set_cons_zero, List.set_cons_succ]
      refine WL.nil ?_
      refine hK22 _ _ ?_
      refine wp_block ?_
      refine wp_loop (fun ac wr => ∃ (t : Nat) (u5 u25 u26 u27 u28 u29 u30 u31 u32 u33 u34 u35 u36 u37 u38 : Value), ac = { tmps := #[.agg (msA c), .pointer (some ⟨g, 0, none⟩), .slice none 0 0, .int .i64 0, .int .i64 0, u5, undef, .int .i64 (t : Int), .agg (msA c), .int .i64 0, .int .i64 0, .bool false, undef, .pointer (some ⟨g, 0, none⟩), .int .i64 M.k, .int .u8 M.k, v3, .pointer (some ⟨g, 0, none⟩), .int .i64 M.k, v3, .pointer (some ⟨g, 5, none⟩), .slice xa M.bk.length xk, .int .i64 (M.bk.length : Int), .int .u64 (M.bk.length : Int), v4, u25, u26, u27, u28, u29, u30, u31, u32, u33, u34, u35, u36, u37, u38, .bool false, .bool false, undef, undef, undef, undef, undef, undef, undef, undef, undef, undef, undef, undef, undef, undef, undef, undef, undef, undef, undef, undef, undef, undef, undef, undef, undef, .bool false, .bool false, undef, undef, undef, undef, undef], defers := [] } ∧ t ≤ M.bk.length ∧ Keep (OB w2 u5 ([M.k] ++ (numL M.bk.length ++ (M.bk.take t).flatMap bform)) wr)) (fun a _ => M.bk.length - (intOf (a.tmps.getD 7 undef)).toNat) ⟨0, v4, undef, undef, undef, undef, undef, undef, undef, undef, undef, undef, undef, undef, undef, undef, rfl, by omega, O4⟩ ?_
      rintro ac wr ⟨t, u5, u25, u26, u27, u28, u29, u30, u31, u32, u33, u34, u35, u36, u37, u38, rfl, ht, HPr⟩
      have d5 := (HM2.out.below HPr.out.bel HM2.out.lt).c 5 (ms_5 c)
      rw [E5.out] at d5
      by_cases hlt : t < M.bk.length
      · have hlt' : (t : Int) < (M.bk.length : Int) := by omega
        have hwt1 : IntKind.i64.wrap ((t : Int) + 1) = (t : Int) + 1 := by rw [IntKind.wrap_i64]; omega
        obtain ⟨qb, ob, ya, yc, hxa, _, hcl, hrow⟩ := RwsAt.at (by have h := HA2.out.bk; rw [E5.out] at h; exact h) t hlt
        subst hxa
        obtain ⟨x, hx⟩ : ∃ x, x = M.bk.getD t [] := ⟨_, rfl⟩
        rw [← hx] at hcl hrow
        have Hx : Keep (M.bk[t]? = some x) := ⟨by rw [hx, List.getD_eq_getElem?_getD, List.getElem?_eq_getElem hlt]; rfl⟩
        have Hx0 : Keep (0 < x.length) := ⟨by rw [hx]; exact ((okR_iff _).1 HOR.out t hlt).1⟩
        have Hrow := Keep.mk hrow
        have hcl2 : wr.cell? ⟨qb, ob + t, none⟩ = some (.slice ya x.length yc) := by rw [HPr.out.bel.cell (p := ⟨qb, ob + t, none⟩) (cell_lt hcl)]; exact hcl
        clear hx hrow hcl
        refine wp_seq_k fun K23 hK23 => ?_
        refine wp_seq_k fun K24 hK24 => ?_
        refine wp_region_list (WL.out ?_)
        refine WL.val (by kernel_rfl) (.int .i64 (t : Int)) (by go_simp) ?_
        simp only [Act.put, List.setIfInBounds_toArray, List.set_cons_zero, List.set_cons_succ]
        refine WL.val (by kernel_rfl) (.pointer (some ⟨g, 5, none⟩)) (by go_simp) ?_
        simp only [Act.put, List.setIfInBounds_toArray, List.set_cons_zero, List.set_cons_succ]
        refine WL.val (by kernel_rfl) (.slice (some ⟨qb, ob, none⟩) M.bk.length xk) (by go_simp) ?_
        simp only [Act.put, List.setIfInBounds_toArray, List.set_cons_zero, List.set_cons_succ]
        refine WL.val (by kernel_rfl) (.int .i64 (M.bk.length : Int)) (by go_simp) ?_
        simp only [Act.put, List.setIfInBounds_toArray, List.set_cons_zero, List.set_cons_succ]
        refine WL.val (by kernel_rfl) (.bool true) (by go_simp) ?_
        simp only [Act.put, List.setIfInBounds_toArray, List.set_cons_zero, List.set_cons_succ]
        refine WL.nil ?_
        refine hK24 _ _ ?_
        refine wp_cond_true rfl ?_
        refine wp_skip ?_
        refine hK23 _ _ ?_
        refine wp_seq_k fun K25 hK25 => ?_
        refine wp_block ?_
        refine wp_region_list (WL.out ?_)
        refine WL.val (by kernel_rfl) (u5) (by go_simp) ?_
        simp only [Act.put, List.setIfInBounds_toArray, List.set_cons_zero, List.set_cons_succ]
        refine WL.val (by kernel_rfl) (.pointer (some ⟨g, 5, none⟩)) (by go_simp) ?_
        simp only [Act.put, List.setIfInBounds_toArray, List.set_cons_zero, List.set_cons_succ]
        refine WL.val (by kernel_rfl) (.slice (some ⟨qb, ob, none⟩) M.bk.length xk) (by go_simp) ?_
        simp only [Act.put, List.setIfInBounds_toArray, List.set_cons_zero, List.set_cons_succ]
        refine WL.val (by kernel_rfl) (.int .i64 (t : Int)) (by go_simp) ?_
        simp only [Act.put, List.setIfInBounds_toArray, List.set_cons_zero, List.set_cons_succ]
        refine WL.val (by kernel_rfl) (.pointer (some ⟨qb, ob + t, none⟩)) (by go_simp) ?_
        simp only [Act.put, List.setIfInBounds_toArray, List.set_cons_zero, List.set_cons_succ]
        refine WL.val (by kernel_rfl) (.slice ya x.length yc) (by go_simp) ?_
        simp only [Act.put, List.setIfInBounds_toArray, List.set_cons_zero, List.set_cons_succ]
        refine WL.callF (by kernel_rfl) 31 _ _ rfl Try.in31 #[u5, .slice ya x.length yc] (by simp [Act.eval]) ?_
        refine (rbytes_any u5 _ _ x wr HPr.out.own (Hrow.out.below HPr.out.bel) (fun k hk ho => by have h1 := row_lt Hrow.out Hx0.out hk; have := HPr.out.new k ho; omega) (by have h := HEn.out; have h2 := fm_le bform M.bk (t + 1); rw [fm_step bform M.bk t x Hx.out, List.length_append] at h2; unfold bkL at h; simp only [List.length_append, List.length_cons, List.length_nil] at h ⊢; omega)).mono ?_
        rintro e wz ⟨vz, rfl, h1, h2, h4⟩
        refine ⟨_, rfl, ?_⟩
        have HP3 : Keep (OB w2 vz ([M.k] ++ (numL M.bk.length ++ (M.bk.take (t + 1)).flatMap bform)) wz) := ⟨(HPr.out.step h1 h2 h4).cast (by rw [fm_step bform M.bk t x Hx.out]; simp only [List.append_assoc])⟩
        clear h1 h2 h4
        simp only [Act.put, List.setIfInBounds_toArray, List.set_cons_zero, List.set_cons_succ]
        refine WL.val (by kernel_rfl) (vz) (by go_simp) ?_
        simp only [Act.put, List.setIfInBounds_toArray, List.set_cons_zero, List.set_cons_succ]
        refine WL.nil ?_
        refine hK25 _ _ ?_
        refine wp_region_list (WL.out ?_)
        refine WL.val (by kernel_rfl) (.int .i64 (t : Int)) (by go_simp) ?_
        simp only [Act.put, List.setIfInBounds_toArray, List.set_cons_zero, List.set_cons_succ]
        refine WL.val (by kernel_rfl) (.int .i64 ((t : Int) + 1)) (by go_simp) ?_
        simp only [Act.put, List.setIfInBounds_toArray, List.set_cons_zero, List.set_cons_succ]
        refine WL.val (by kernel_rfl) (.int .i64 ((t : Int) + 1)) (by go_simp) ?_
        simp only [Act.put, List.setIfInBounds_toArray, List.set_cons_zero, List.set_cons_succ]
        refine WL.nil ?_
        refine ⟨⟨t + 1, vz, .int .i64 (t : Int), .pointer (some ⟨g, 5, none⟩), .slice (some ⟨qb, ob, none⟩) M.bk.length xk, .int .i64 (M.bk.length : Int), .bool true, .int .i64 (t : Int), .int .i64 ((t : Int) + 1), u5, .pointer (some ⟨g, 5, none⟩), .slice (some ⟨qb, ob, none⟩) M.bk.length xk, .int .i64 (t : Int), .pointer (some ⟨qb, ob + t, none⟩), .slice ya x.length yc, vz, rfl, by omega, HP3⟩, by simp [intOf]; omega⟩
      · have hte : t = M.bk.length := by omega
        have hlt' : ¬ (t : Int) < (M.bk.length : Int) := by omega
        rw [hte, List.take_length] at HPr
        refine wp_seq_k fun K26 hK26 => ?_
        refine wp_seq_k fun K27 hK27 => ?_
        refine wp_region_list (WL.out ?_)
        refine WL.val (by kernel_rfl) (.int .i64 (t : Int)) (by go_simp) ?_
        simp only [Act.put, List.setIfInBounds_toArray, List.set_cons_zero, List.set_cons_succ]
        refine WL.val (by kernel_rfl) (.pointer (some ⟨g, 5, none⟩)) (by go_simp) ?_
        simp only [Act.put, List.setIfInBounds_toArray, List.set_cons_zero, List.set_cons_succ]
        refine WL.val (by kernel_rfl) (.slice xa M.bk.length xk) (by go_simp) ?_
        simp only [Act.put, List.setIfInBounds_toArray, List.set_cons_zero, List.set_cons_succ]
        refine WL.val (by kernel_rfl) (.int .i64 (M.bk.length : Int)) (by go_simp) ?_
        simp only [Act.put, List.setIfInBounds_toArray, List.set_cons_zero, List.set_cons_succ]
        refine WL.val (by kernel_rfl) (.bool false) (by go_simp) ?_
        simp only [Act.put, List.setIfInBounds_toArray, List.set_cons_zero, List.set_cons_succ]
        refine WL.nil ?_
        refine hK27 _ _ ?_
        refine wp_cond_false rfl ?_
        refine wp_exit ?_
        refine hK6 _ _ ?_
        refine wp_seq_k fun K28 hK28 => ?_
        refine wp_region_list (WL.out ?_)
        refine WL.val (by kernel_rfl) (u5) (by go_simp) ?_
        simp only [Act.put, List.setIfInBounds_toArray, List.set_cons_zero, List.set_cons_succ]
        refine WL.val (by kernel_rfl) (u5) (by go_simp) ?_
        simp only [Act.put, List.setIfInBounds_toArray, List.set_cons_zero, List.set_cons_succ]
        refine WL.val (by kernel_rfl) (.int .i64 0) (by go_simp) ?_
        simp only [Act.put, List.setIfInBounds_toArray, List.set_cons_zero, List.set_cons_succ]
        refine WL.nil ?_
        refine hK28 _ _ ?_
        refine wp_ret ?_
        go_ret2
        exact ⟨_, rfl, own_castL HPr.out.own (by rw [encM, hasI3 h3]; simp [putF, bkL, List.append_assoc]), fun k hk => Nat.le_trans B2.out.size (HPr.out.new k hk), B2.out.trans (HPr.out.bel.mono B2.out.size)⟩
theorem Try.in4 (w : World) (vs : Array Value) : (callFunc 4 vs).run Try.prog w = .ok (.enter 4 vs) w := by kernel_rfl
def encX (M : MsgV) : List Int := if chkM M = 0 then encM M else []
theorem rencode_any (M : MsgV) (c : MC) (w : World) (hA : MsAt w M c) (hok : MsOk M) : Calls Try.prog 12 #[.agg (msA c)] w fun e w' => ∃ v, e = .returned (.tuple #[v, .int .i64 (chkM M)]) ∧ RowAt w' v (encX M) ∧ Below w.heap.size w w' := by
  by_cases hc : chkM M = 0
  · refine (rencode_good M c w hA hok hc).mono ?_
    rintro e w' ⟨v, rfl, h⟩
    exact ⟨v, by rw [hc], by rw [encX, if_pos hc]; exact h.own.row, h.bel⟩
  · refine (rencode_bad M c w hA hok hc).mono ?_
    rintro e w' ⟨rfl, h⟩
    exact ⟨_, rfl, by rw [encX, if_neg hc]; exact .inl ⟨rfl, rfl⟩, h⟩
theorem encode_row (M : MsgV) (c : MC) (w : World) (hA : MsAt w M c) (hok : MsOk M) : Calls Try.prog 11 #[.agg (msA c)] w fun e w' => ∃ v, e = .returned (.tuple #[v, .int .i64 (chkM M)]) ∧ RowAt w' v (encX M) ∧ Below w.heap.size w w' := by
  refine (encode_any M c w hA hok).mono ?_
  rintro e w' ⟨v, rfl, h, hb⟩
  refine ⟨v, rfl, ?_, hb⟩
  rcases h with ⟨hc, h⟩ | ⟨hc, rfl⟩
  · rw [encX, if_pos hc]
    obtain ⟨g, _, h2⟩ := fresh_row h
    exact h2
  · rw [encX, if_neg hc]; exact .inl ⟨rfl, rfl⟩
set_option maxRecDepth 8000 in
set_option maxHeartbeats 2000000 in
theorem checks_any (M : MsgV) (c : MC) (w : World) (hA : MsAt w M c) (hok : MsOk M) : Calls Try.prog 4 #[.agg (msA c)] w fun e w' => e = .returned (.bool true) ∧ Below w.heap.size w w' := by
  have HOk := Keep.mk hok
  have HA := Keep.mk hA
  obtain ⟨ee, hee⟩ : ∃ ee, chkM M = ee := ⟨_, rfl⟩
  have He := Keep.mk hee
  clear hA hok hee
  go_enter Try.func4, Try.ntmps4
  refine wp_seq_k fun K1 hK1 => ?_
  refine wp_region_list (WL.out ?_)
  refine WL.box (by kernel_rfl) 28 (.tmp 0) rfl _ rfl ?_
  have HM1 := Keep.mk (Blk.new w 28 (msA c))
  have BB1 := Keep.mk (below_new w (.cells (msA c) 28))
  have HA1 := Keep.mk (HA.out.below (below_new w (.cells (msA c) 28)))
  generalize w.alloc (.cells (msA c) 28) = w1 at *
  generalize w.heap.size = g at HM1 ⊢
  simp only [Act.put, List.setIfInBounds_toArray, List.set_cons_zero, List.set_cons_succ]
  refine WL.val (by kernel_rfl) (.bool false) (by go_simp) ?_
  simp only [Act.put, List.setIfInBounds_toArray, List.set_cons_zero, List.set_cons_succ]
  refine WL.nil ?_
  refine hK1 _ _ ?_
  refine wp_seq_k fun K2 hK2 => ?_
  refine wp_region_list (WL.out ?_)
  refine WL.row (by kernel_rfl) 28 (.tmp 1) rfl g rfl 28 (msA c) _ HM1.out Try.underlying28 rfl (Try.size28B _) ?_
  simp only [Act.put, List.setIfInBounds_toArray, List.set_cons_zero, List.set_cons_succ]
  refine WL.callF (by kernel_rfl) 10 _ _ rfl Try.in10 #[.agg (msA c)] (by simp [Act.eval]) ?_
  refine (check_any M c w1 HA1.out HOk.out).mono ?_
  rintro e w2 ⟨rfl, hb⟩
  refine ⟨_, rfl, ?_⟩
  rw [He.out]
  have HM2 := Keep.mk (HM1.out.below hb HM1.out.lt)
  have HA2 := Keep.mk (HA1.out.below hb)
  have BB2 : Keep (Below w.heap.size w w2) := ⟨BB1.out.trans (hb.mono BB1.out.size)⟩
  clear hb
  simp only [Act.put, List.setIfInBounds_toArray, List.set_cons_zero, List.set_cons_succ]
  refine WL.val (by kernel_rfl) (.int .i64 ee) (by go_simp) ?_
  simp only [Act.put, List.setIfInBounds_toArray, List.set_cons_zero, List.set_cons_succ]
  refine WL.nil ?_
  refine hK2 _ _ ?_
  refine wp_seq_k fun K3 hK3 => ?_
  refine wp_region_list (WL.out ?_)
  refine WL.row (by kernel_rfl) 28 (.tmp 1) rfl g rfl 28 (msA c) _ HM2.out Try.underlying28 rfl (Try.size28B _) ?_
  simp only [Act.put, List.setIfInBounds_toArray, List.set_cons_zero, List.set_cons_succ]
  refine WL.callF (by kernel_rfl) 11 _ _ rfl Try.in11 #[.agg (msA c)] (by simp [Act.eval]) ?_
  refine (encode_row M c w2 HA2.out HOk.out).mono ?_
  rintro e w3 ⟨vb, rfl, hr, hb⟩
  refine ⟨_, rfl, ?_⟩
  rw [He.out]
  have HM3 := Keep.mk (HM2.out.below hb HM2.out.lt)
  have HA3 := Keep.mk (HA2.out.below hb)
  have BB3 : Keep (Below w.heap.size w w3) := ⟨BB2.out.trans (hb.mono BB2.out.size)⟩
  have HR3 := Keep.mk hr
  clear hb hr
  simp only [Act.put, List.setIfInBounds_toArray, List.set_cons_zero, List.set_cons_succ]
  refine WL.val (by kernel_rfl) (.tuple #[vb, .int .i64 ee]) (by go_simp) ?_
  simp only [Act.put, List.setIfInBounds_toArray, List.set_cons_zero, List.set_cons_succ]
  refine WL.val (by kernel_rfl) (vb) (by go_simp) ?_
  simp only [Act.put, List.setIfInBounds_toArray, List.set_cons_zero, List.set_cons_succ]
  refine WL.val (by kernel_rfl) (.int .i64 ee) (by go_simp) ?_
  simp only [Act.put, List.setIfInBounds_toArray, List.set_cons_zero, List.set_cons_succ]
  refine WL.val (by kernel_rfl) (vb) (by go_simp) ?_
  simp only [Act.put, List.setIfInBounds_toArray, List.set_cons_zero, List.set_cons_succ]
  refine WL.val (by kernel_rfl) (.int .i64 ee) (by go_simp) ?_
  simp only [Act.put, List.setIfInBounds_toArray, List.set_cons_zero, List.set_cons_succ]
  refine WL.nil ?_
  refine hK3 _ _ ?_
  refine wp_seq_k fun K4 hK4 => ?_
  refine wp_region_list (WL.out ?_)
  refine WL.row (by kernel_rfl) 28 (.tmp 1) rfl g rfl 28 (msA c) _ HM3.out Try.underlying28 rfl (Try.size28B _) ?_
  simp only [Act.put, List.setIfInBounds_toArray, List.set_cons_zero, List.set_cons_succ]
  refine WL.callF (by kernel_rfl) 12 _ _ rfl Try.in12 #[.agg (msA c)] (by simp [Act.eval]) ?_
  refine (rencode_any M c w3 HA3.out HOk.out).mono ?_
  rintro e w4 ⟨vd, rfl, hr, hb⟩
  refine ⟨_, rfl, ?_⟩
  rw [He.out]
  have BB4 : Keep (Below w.heap.size w w4) := ⟨BB3.out.trans (hb.mono BB3.out.size)⟩
  have HR4 := Keep.mk (HR3.out.below hb)
  have HD4 := Keep.mk hr
  clear hb hr
  obtain ⟨st, hst⟩ : ∃ st, strOfNums (encX M) = st := ⟨_, rfl⟩
  have h1 := conv_row _ _ w4 HR4.out
  have h2 := conv_row _ _ w4 HD4.out
  rw [hst] at h1 h2
  clear hst
  simp only [Act.put, List.setIfInBounds_toArray, List.set_cons_zero, List.set_cons_succ]
  refine WL.val (by kernel_rfl) (.tuple #[vd, .int .i64 ee]) (by go_simp) ?_
  simp only [Act.put, List.setIfInBounds_toArray, List.set_cons_zero, List.set_cons_succ]
  refine WL.val (by kernel_rfl) (vd) (by go_simp) ?_
  simp only [Act.put, List.setIfInBounds_toArray, List.set_cons_zero, List.set_cons_succ]
  refine WL.val (by kernel_rfl) (.int .i64 ee) (by go_simp) ?_
  simp only [Act.put, List.setIfInBounds_toArray, List.set_cons_zero, List.set_cons_succ]
  refine WL.val (by kernel_rfl) (vd) (by go_simp) ?_
  simp only [Act.put, List.setIfInBounds_toArray, List.set_cons_zero, List.set_cons_succ]
  refine WL.val (by kernel_rfl) (.int .i64 ee) (by go_simp) ?_
  simp only [Act.put, List.setIfInBounds_toArray, List.set_cons_zero, List.set_cons_succ]
  refine WL.nil ?_
  refine hK4 _ _ ?_
  refine wp_seq_k fun K5 hK5 => ?_
  refine wp_region_list (WL.out ?_)
  refine WL.val (by kernel_rfl) (.int .i64 ee) (by go_simp) ?_
  simp only [Act.put, List.setIfInBounds_toArray, List.set_cons_zero, List.set_cons_succ]
  refine WL.val (by kernel_rfl) (.int .i64 ee) (by go_simp) ?_
  simp only [Act.put, List.setIfInBounds_toArray, List.set_cons_zero, List.set_cons_succ]
  refine WL.val (by kernel_rfl) (.bool true) (by go_simp) ?_
  simp only [Act.put, List.setIfInBounds_toArray, List.set_cons_zero, List.set_cons_succ]
  refine WL.val (by kernel_rfl) (.bool true) (by go_simp) ?_
  simp only [Act.put, List.setIfInBounds_toArray, List.set_cons_zero, List.set_cons_succ]
  refine WL.val (by kernel_rfl) (.int .i64 ee) (by go_simp) ?_
  simp only [Act.put, List.setIfInBounds_toArray, List.set_cons_zero, List.set_cons_succ]
  refine WL.val (by kernel_rfl) (.int .i64 ee) (by go_simp) ?_
  simp only [Act.put, List.setIfInBounds_toArray, List.set_cons_zero, List.set_cons_succ]
  refine WL.val (by kernel_rfl) (.bool true) (by go_simp) ?_
  simp only [Act.put, List.setIfInBounds_toArray, List.set_cons_zero, List.set_cons_succ]
  refine WL.val (by kernel_rfl) (.bool true) (by go_simp) ?_
  simp only [Act.put, List.setIfInBounds_toArray, List.set_cons_zero, List.set_cons_succ]
  refine WL.val (by kernel_rfl) (.bool true) (by go_simp) ?_
  simp only [Act.put, List.setIfInBounds_toArray, List.set_cons_zero, List.set_cons_succ]
  refine WL.val (by kernel_rfl) (vb) (by go_simp) ?_
  simp only [Act.put, List.setIfInBounds_toArray, List.set_cons_zero, List.set_cons_succ]
  refine WL.val (by kernel_rfl) (.string st) (by go_simp) ?_
  simp only [Act.put, List.setIfInBounds_toArray, List.set_cons_zero, List.set_cons_succ]
  refine WL.val (by kernel_rfl) (vd) (by go_simp) ?_
  simp only [Act.put, List.setIfInBounds_toArray, List.set_cons_zero, List.set_cons_succ]
  refine WL.val (by kernel_rfl) (.string st) (by go_simp) ?_
  simp only [Act.put, List.setIfInBounds_toArray, List.set_cons_zero, List.set_cons_succ]
  refine WL.val (by kernel_rfl) (.bool true) (by go_simp) ?_
  simp only [Act.put, List.setIfInBounds_toArray, List.set_cons_zero, List.set_cons_succ]
  refine WL.val (by kernel_rfl) (.bool true) (by go_simp) ?_
  simp only [Act.put, List.setIfInBounds_toArray, List.set_cons_zero, List.set_cons_succ]
  refine WL.val (by kernel_rfl) (.bool true) (by go_simp) ?_
  simp only [Act.put, List.setIfInBounds_toArray, List.set_cons_zero, List.set_cons_succ]
  refine WL.callF (by kernel_rfl) 9 _ _ rfl Try.in9 #[] (by simp [Act.eval]) ?_
  refine (fixed_any w4).mono ?_
  rintro e w5 ⟨rfl, hb⟩
  refine ⟨_, rfl, ?_⟩
  have BB5 : Keep (Below w.heap.size w w5) := ⟨BB4.out.trans (hb.mono BB4.out.size)⟩
  clear hb
  simp only [Act.put, List.setIfInBounds_toArray, List.set_cons_zero, List.set_cons_succ]
  refine WL.val (by kernel_rfl) (.bool true) (by go_simp) ?_
  simp only [Act.put, List.setIfInBounds_toArray, List.set_cons_zero, List.set_cons_succ]
  refine WL.val (by kernel_rfl) (.bool true) (by go_simp) ?_
  simp only [Act.put, List.setIfInBounds_toArray, List.set_cons_zero, List.set_cons_succ]
  refine WL.nil ?_
  refine hK5 _ _ ?_
  refine wp_ret ?_
  go_ret
  exact ⟨rfl, BB5.out⟩
end Go.Proofs.Ytlogkojhcccogaa
namespace Go.Proofs.Ytlogkojhcccogaa
open Go.ChangeShapes Go.WideShapes Go.ChangeAt Go.RowKit Go.Deep

theorem Try.cellsOf101 : Try.prog.cellsOf 101 = 32 := by kernel_rfl
theorem Try.cellsOf25 : Try.prog.cellsOf 25 = 1 := by kernel_rfl
theorem Try.cellsOf3 : Try.prog.cellsOf 3 = 1 := by kernel_rfl
theorem Try.cellsOf2 : Try.prog.cellsOf 2 = 1 := by kernel_rfl
theorem Try.cellsOf9 : Try.prog.cellsOf 9 = 1 := by kernel_rfl
theorem Try.cellsOf5 : Try.prog.cellsOf 5 = 1 := by kernel_rfl
theorem Try.bytesOf5 : Try.prog.bytesOf 5 = 1 := by kernel_rfl
theorem reach_is : reachBytes = 140737488351232 := by decide
theorem add_none' (b o i : Nat) : (⟨b, o, none⟩ : Addr).add i = ⟨b, o + i, none⟩ := by
  cases i with
  | zero => rfl
  | succ i => rfl
theorem mem_weightsAll {H : Type} {P : Program} {e : TypeId} {d : DataW H} : ∀ {ds : List (DataW H)}, d ∈ ds → ∀ n ∈ d.weights P e, n ∈ DataW.weightsAll P e ds
  | d0 :: ds, h, n, hn => by
    simp only [DataW.weightsAll, List.mem_append]
    rcases List.mem_cons.1 h with rfl | h
    · exact .inl hn
    · exact .inr (mem_weightsAll h n hn)
theorem wf_u8 {n : Int} (h : (Lit.int .u8 n).wf = true) : 0 ≤ n ∧ n < 256 := by
  have h1 : IntKind.u8.min = 0 := by decide
  have h2 : IntKind.u8.max = 255 := by decide
  simp only [Lit.wf, h1, h2, Bool.and_eq_true, decide_eq_true_eq] at h
  omega
theorem wf_i64 {n : Int} (h : (Lit.int .i64 n).wf = true) : -9223372036854775808 ≤ n ∧ n ≤ 9223372036854775807 := by
  have h1 : IntKind.i64.min = -9223372036854775808 := by decide
  have h2 : IntKind.i64.max = 9223372036854775807 := by decide
  simp only [Lit.wf, h1, h2, Bool.and_eq_true, decide_eq_true_eq] at h
  omega

theorem row_of_trod {H : Type} {enc : TypeId × Value → H} {W : World} {sp : Nat → Bool} {held : Bool} {n base : Nat} {v : Value} {x : DataW H × List MemPlace} (hf : DataW.trod enc Try.prog W base sp held n 25 [v] = some x) (hw : ∀ n ∈ x.1.weights Try.prog 25, n ≤ reachBytes) :
    ∃ l : List Int, RowAt W v l ∧ Byts l ∧ l.length ≤ 140737488351232 := by
  rcases open_ints Try.underlying25 Try.underlying5 Try.cellsOf5 hf with ⟨hcs, _⟩ | ⟨a, len, cap, zs, hcs, _, hl, hm, hz, hx, hcell, hwz⟩
  · simp at hcs
    subst hcs
    exact ⟨[], .inl ⟨rfl, rfl⟩, Byts.nil, by simp⟩
  · simp at hcs
    subst hcs
    unfold maxLen at hm
    have hlz : len ≤ zs.length := by rw [hz]; split <;> omega
    have hbz : Byts zs := fun c hc => wf_u8 (hwz c hc)
    have hb : len ≤ 140737488351232 := by
      have h1 := hw ((zs.take len).length + (zs.drop len).length) (by
        rw [hx]
        simp only [DataW.weights, Try.underlying25]
        simp [lits, Try.bytesOf5])
      rw [List.length_take, reach_is] at h1
      omega
    by_cases h0 : len = 0
    · subst h0
      exact ⟨[], .inr (.inl ⟨a, cap, rfl, rfl⟩), Byts.nil, by simp⟩
    · have hs : a.spot = none := by
        have := hcell 0 (by omega)
        rw [show a.add 0 = a from rfl] at this
        exact World.cell?_spot this
      obtain ⟨b, off, sp⟩ := a
      obtain rfl : sp = none := hs
      have hlen : (zs.take len).length = len := by rw [List.length_take]; omega
      refine ⟨zs.take len, .inr (.inr ⟨b, off, cap, by rw [hlen], by omega, fun i hi => ?_⟩), hbz.take len, by omega⟩
      rw [hlen] at hi
      have := hcell i (by omega)
      rw [add_none'] at this
      rw [this]
      simp [List.getD, hi]

theorem trod_struct5 {H : Type} {enc : TypeId × Value → H} {P : Program} {w : World} {base : Nat} {spare : Nat → Bool} {held : Bool} {t : TypeId} {f0 f1 f2 f3 f4 : Field} {fuel : Nat} {cs : List Value} {x : DataW H × List MemPlace} (ht : P.underlying t = some (.struct #[f0, f1, f2, f3, f4])) (h : DataW.trod enc P w base spare held fuel t cs = some x) :
    ∃ y0 y1 y2 y3 y4 n, x.1 = .agg [y0.1, y1.1, y2.1, y3.1, y4.1] ∧ cs.length = P.cellsOf t ∧ DataW.trod enc P w base spare held n f0.type ((cs.drop f0.offset).take (P.cellsOf f0.type)) = some y0 ∧
      DataW.trod enc P w base spare held n f1.type ((cs.drop f1.offset).take (P.cellsOf f1.type)) = some y1 ∧ DataW.trod enc P w base spare held n f2.type ((cs.drop f2.offset).take (P.cellsOf f2.type)) = some y2 ∧ DataW.trod enc P w base spare held n f3.type ((cs.drop f3.offset).take (P.cellsOf f3.type)) = some y3 ∧ DataW.trod enc P w base spare held n f4.type ((cs.drop f4.offset).take (P.cellsOf f4.type)) = some y4 := by
  obtain ⟨xs, n, _, rfl, hl, hlen, hf⟩ := DataW.trod_struct ht h
  match xs, hlen with
  | [y0, y1, y2, y3, y4], _ => exact ⟨y0, y1, y2, y3, y4, n, by simp, hl, by simpa using hf 0 f0 rfl, by simpa using hf 1 f1 rfl, by simpa using hf 2 f2 rfl, by simpa using hf 3 f3 rfl, by simpa using hf 4 f4 rfl⟩
theorem trod_struct2 {H : Type} {enc : TypeId × Value → H} {P : Program} {w : World} {base : Nat} {spare : Nat → Bool} {held : Bool} {t : TypeId} {f0 f1 : Field} {fuel : Nat} {cs : List Value} {x : DataW H × List MemPlace} (ht : P.underlying t = some (.struct #[f0, f1])) (h : DataW.trod enc P w base spare held fuel t cs = some x) :
    ∃ y0 y1 n, x.1 = .agg [y0.1, y1.1] ∧ cs.length = P.cellsOf t ∧ DataW.trod enc P w base spare held n f0.type ((cs.drop f0.offset).take (P.cellsOf f0.type)) = some y0 ∧
      DataW.trod enc P w base spare held n f1.type ((cs.drop f1.offset).take (P.cellsOf f1.type)) = some y1 := by
  obtain ⟨xs, n, _, rfl, hl, hlen, hf⟩ := DataW.trod_struct ht h
  match xs, hlen with
  | [y0, y1], _ => exact ⟨y0, y1, n, by simp, hl, by simpa using hf 0 f0 rfl, by simpa using hf 1 f1 rfl⟩
theorem take_one {l : List Value} {i : Nat} {v : Value} (h : (l.drop i).take 1 = [v]) : l[i]? = some v := by
  have h2 : ((l.drop i).take 1)[0]? = some v := by rw [h]; rfl
  rw [List.getElem?_take, if_pos (by omega), List.getElem?_drop] at h2
  simpa using h2
theorem one_of {cs : List Value} {v : Value} {j : Nat} (h : (cs.drop j).take 1 = [v]) : cs[j]? = some v := take_one h
end Go.Proofs.Ytlogkojhcccogaa
namespace Go.Proofs.Ytlogkojhcccogaa
open Go.ChangeShapes Go.WideShapes Go.ChangeAt Go.RowKit Go.Deep
set_option linter.unusedSimpArgs false
set_option linter.unusedVariables false

theorem Try.cellsOf23 : Try.prog.cellsOf 23 = 1 := by kernel_rfl
theorem Try.cellsOf26 : Try.prog.cellsOf 26 = 1 := by kernel_rfl
theorem Try.cellsOf24 : Try.prog.cellsOf 24 = 1 := by kernel_rfl
theorem Try.cellsOf28 : Try.prog.cellsOf 28 = 6 := by kernel_rfl
theorem Try.bytesOf101 : Try.prog.bytesOf 101 = 32 := by kernel_rfl
theorem Try.bytesOf25 : Try.prog.bytesOf 25 = 24 := by kernel_rfl
theorem Try.bytesOf3 : Try.prog.bytesOf 3 = 8 := by kernel_rfl
theorem wf_u64 {n : Int} (h : (Lit.int .u64 n).wf = true) : 0 ≤ n ∧ n < 18446744073709551616 := by
  have h1 : IntKind.u64.min = 0 := by decide
  have h2 : IntKind.u64.max = 18446744073709551615 := by decide
  simp only [Lit.wf, h1, h2, Bool.and_eq_true, decide_eq_true_eq] at h
  omega
theorem hash_of_trod {H : Type} {enc : TypeId × Value → H} {W : World} {sp : Nat → Bool} {held : Bool} {n base : Nat} {l : List Value} {x : DataW H × List MemPlace} (hf : DataW.trod enc Try.prog W base sp held n 101 l = some x) :
    ∃ c : Nat → Int, l = (bytesA 32 c).toList ∧ ∀ i, i < 32 → 0 ≤ c i ∧ c i < 256 := by
  obtain ⟨xs, m, _, _, hl, hx, hel⟩ := DataW.trod_array Try.underlying101 hf
  rw [Try.cellsOf101] at hl
  rw [Try.cellsOf5] at hel
  have each : ∀ i, i < 32 → ∃ z : Int, l[i]? = some (.int .u8 z) ∧ 0 ≤ z ∧ z < 256 := by
    intro i hi
    have h1 := hel i hi
    rw [List.getElem?_eq_getElem (by omega), Nat.mul_one] at h1
    obtain ⟨z, hz, _, hw⟩ := DataW.trod_int Try.underlying5 h1
    have hb := wf_u8 hw
    exact ⟨z, take_one hz, by omega, by omega⟩
  obtain ⟨c, hc⟩ := Go.Deep.choose_lt each
  refine ⟨c, ?_, fun i hi => (hc i hi).2⟩
  apply List.ext_getElem?
  intro i
  by_cases hi : i < 32
  · rw [(hc i hi).1, Array.getElem?_toList, bytesA_get _ _ _ hi]
  · rw [List.getElem?_eq_none (by omega), List.getElem?_eq_none (by rw [Array.length_toList, bytesA_size]; omega)]
theorem hashH_of_trod {H : Type} {enc : TypeId × Value → H} {W : World} {sp : Nat → Bool} {held : Bool} {n base : Nat} {l : List Value} {x : DataW H × List MemPlace} (hf : DataW.trod enc Try.prog W base sp held n 101 l = some x) : ∃ h : Hs, l = Sh.encH h := by
  obtain ⟨c, e, h1⟩ := hash_of_trod hf
  exact ⟨Sh.Hs.mk' c h1, by rw [e, Sh.encH]; exact congrArg Array.toList (bytesA_congr fun i hi => (Sh.Hs.mk'_f c h1 i hi).symm)⟩
theorem hs_of_trod {H : Type} {enc : TypeId × Value → H} {W : World} {sp : Nat → Bool} {held : Bool} {fuel base : Nat} {v : Value} {x : DataW H × List MemPlace} (hf : DataW.trod enc Try.prog W base sp held fuel 23 [v] = some x) (hw : ∀ n ∈ x.1.weights Try.prog 23, n ≤ reachBytes) :
    ∃ l : List Hs, Sh.HRow W v l ∧ l.length ≤ 4398046511104 := by
  rcases open_slice Try.underlying23 hf with ⟨hcs, _⟩ | ⟨a, len, cap, m, n, D, Pl, hcs, _, hl_, hm, hz, hx, hcell⟩
  · simp at hcs
    subst hcs
    exact ⟨[], .inl ⟨none, 0, rfl, rfl, fun _ => rfl⟩, by simp⟩
  · simp at hcs
    subst hcs
    have hlz : len ≤ m := by rw [hz]; split <;> omega
    have hb : len ≤ 4398046511104 := by
      have h1 := hw ((((List.range len).map D).length + ((List.range (m - len)).map fun j => D (len + j)).length) * 32) (by
        rw [hx]
        simp only [DataW.weights, Try.underlying23]
        simp [Try.bytesOf101])
      rw [reach_is] at h1
      simp only [List.length_map, List.length_range] at h1
      omega
    have each : ∀ i, i < len → ∃ q : Hs, ∀ j v, (Sh.encH q)[j]? = some v → W.cell? ((a.add (i * 32)).add j) = some v := by
      intro i hi
      obtain ⟨cs', h1, h2⟩ := hcell i (by omega)
      rw [Try.cellsOf101] at h1
      obtain ⟨_, hlen, hce⟩ := World.cells?_some h1
      obtain ⟨q, hqe⟩ := hashH_of_trod h2
      clear h2
      refine ⟨q, fun j v hv => ?_⟩
      obtain ⟨hj, e⟩ := List.getElem?_eq_some_iff.1 hv
      rw [Sh.encH_len] at hj
      rw [hce j (by omega), hqe, ← hv]
    obtain ⟨q, hq⟩ := Go.Deep.choose_lt each
    refine ⟨(List.range len).map q, ?_, by simpa using hb⟩
    by_cases h0 : len = 0
    · subst h0
      exact .inl ⟨some a, cap, rfl, rfl, fun h => by cases h⟩
    · have hs : a.spot = none := by
        have hv0 : (Sh.encH (q 0))[0]? = some (.int .u8 ((q 0).f 0)) := Sh.encH_get _ 0 (by omega)
        have := hq 0 (by omega) 0 _ hv0
        rw [Nat.zero_mul, show a.add 0 = a from rfl] at this
        rw [show a.add 0 = a from rfl] at this
        exact World.cell?_spot this
      obtain ⟨b, off, sp⟩ := a
      obtain rfl : sp = none := hs
      refine .inr ⟨b, off, cap, by simp, by simp; omega, fun j v hv => ?_⟩
      have hj : j < len * 32 := by
        have := (List.getElem?_eq_some_iff.1 hv).1
        rw [Sh.flatH_len] at this
        simpa using this
      have hi : j / 32 < ((List.range len).map q).length := by simp; omega
      have hg := Sh.flatH_get ((List.range len).map q) (j / 32) hi (j % 32) (Nat.mod_lt _ (by omega))
      rw [show j / 32 * 32 + j % 32 = j by omega, hv] at hg
      have := hq (j / 32) (by simpa using hi) (j % 32) v (by rw [hg]; simp)
      simp only [add_none'] at this
      rwa [show off + j / 32 * 32 + j % 32 = off + j by omega] at this
theorem ints_of_trod {H : Type} {enc : TypeId × Value → H} {W : World} {sp : Nat → Bool} {held : Bool} {n base : Nat} {v : Value} {x : DataW H × List MemPlace} (hf : DataW.trod enc Try.prog W base sp held n 55 [v] = some x) (hw : ∀ n ∈ x.1.weights Try.prog 55, n ≤ reachBytes) :
    ∃ (m : Nat) (K : Nat → Int), IntsAt W v m K ∧ (m : Int) ≤ 17592186044416 := by
  rcases open_ints Try.underlying55 Try.underlying3 Try.cellsOf3 hf with ⟨hcs, _⟩ | ⟨a, len, cap, zs, hcs, _, hl, hm, hz, hx, hcell, hwz⟩
  · simp at hcs
    subst hcs
    exact ⟨0, fun _ => 0, ⟨.inl ⟨none, 0, rfl, rfl⟩⟩, by omega⟩
  · simp at hcs
    subst hcs
    have hlz : len ≤ zs.length := by rw [hz]; split <;> omega
    have hb : (len : Int) ≤ 17592186044416 := by
      have h1 := hw (((zs.take len).length + (zs.drop len).length) * 8) (by
        rw [hx]
        simp only [DataW.weights, Try.underlying55]
        simp [lits, Try.bytesOf3])
      rw [List.length_take, reach_is] at h1
      omega
    refine ⟨len, fun i => zs.getD i 0, ⟨?_⟩, hb⟩
    by_cases h0 : len = 0
    · subst h0
      exact .inl ⟨_, _, rfl, rfl⟩
    · have hs : a.spot = none := by
        have := hcell 0 (by omega)
        rw [show a.add 0 = a from rfl] at this
        exact World.cell?_spot this
      obtain ⟨b, off, sp⟩ := a
      obtain rfl : sp = none := hs
      refine .inr ⟨b, off, cap, rfl, fun i hi => ?_⟩
      have := hcell i (by omega)
      rw [add_none'] at this
      exact this

theorem rws_of_trod {H : Type} {enc : TypeId × Value → H} {W : World} {sp : Nat → Bool} {held : Bool} {fuel base : Nat} {v : Value} {x : DataW H × List MemPlace} (hf : DataW.trod enc Try.prog W base sp held fuel 26 [v] = some x) (hw : ∀ n ∈ x.1.weights Try.prog 26, n ≤ reachBytes) :
    ∃ ls : List (List Int), RwsAt W v ls ∧ ls.length ≤ 140737488355328 ∧ (∀ i, i < ls.length → (ls.getD i []).length ≤ 140737488355328) ∧ ∀ r ∈ ls, Byts r := by
  rcases open_slice1 Try.underlying26 Try.cellsOf25 hf with ⟨hcs, _⟩ | ⟨a, len, cap, m, n, V, D, Pl, hcs, _, hl, hm, hz, hx, hcell⟩
  · simp at hcs
    subst hcs
    exact ⟨[], RwsAt.nil W, by simp, fun i hi => by simp at hi, fun r hr => by simp at hr⟩
  · simp at hcs
    subst hcs
    have hlz : len ≤ m := by rw [hz]; split <;> omega
    have hb : len ≤ 140737488355328 := by
      have h1 := hw ((((List.range len).map D).length + ((List.range (m - len)).map fun j => D (len + j)).length) * 24) (by
        rw [hx]
        simp only [DataW.weights, Try.underlying26]
        simp [Try.bytesOf25])
      rw [reach_is] at h1
      simp only [List.length_map, List.length_range] at h1
      omega
    have hwD : ∀ i, i < len → ∀ n ∈ (D i).weights Try.prog 25, n ≤ reachBytes := fun i hi n hn => hw n (by
      rw [hx]
      simp only [DataW.weights, Try.underlying26]
      refine List.mem_cons_of_mem _ (List.mem_append_left _ (mem_weightsAll (d := D i) ?_ n hn))
      exact List.mem_map.2 ⟨i, List.mem_range.2 hi, rfl⟩)
    obtain ⟨rows, hrows⟩ := Go.Deep.choose_lt (n := len) (p := fun i l => RowAt W (V i) l ∧ Byts l ∧ l.length ≤ 140737488351232) fun i hi => row_of_trod (hcell i (by omega)).2 (hwD i hi)
    have hg : ∀ i, i < len → ((List.range len).map rows).getD i [] = rows i := fun i hi => by rw [List.getD_eq_getElem?_getD]; simp [hi]
    refine ⟨(List.range len).map rows, ⟨V, ?_, fun i hi => ?_⟩, by simpa using hb, fun i hi => ?_, fun r hr => ?_⟩
    · by_cases h0 : len = 0
      · subst h0
        exact .inl ⟨_, _, rfl, rfl⟩
      · have hs : a.spot = none := by
          have := (hcell 0 (by omega)).1
          rw [show a.add 0 = a from rfl] at this
          exact World.cell?_spot this
        obtain ⟨b, off, sp⟩ := a
        obtain rfl : sp = none := hs
        refine .inr ⟨b, off, cap, by simp, by simpa using hl, fun i hi => ?_⟩
        have := (hcell i (by simp at hi; omega)).1
        rw [add_none'] at this
        exact this
    · have hi' : i < len := by simpa using hi
      rw [hg i hi']; exact (hrows i hi').1
    · have hi' : i < len := by simpa using hi
      rw [hg i hi']; have := (hrows i hi').2.2; omega
    · obtain ⟨i, hi, rfl⟩ := List.mem_map.1 hr
      exact (hrows i (List.mem_range.1 hi)).2.1
theorem trod_struct6 {H : Type} {enc : TypeId × Value → H} {P : Program} {w : World} {base : Nat} {spare : Nat → Bool} {held : Bool} {t : TypeId} {f0 f1 f2 f3 f4 f5 : Field} {fuel : Nat} {cs : List Value} {x : DataW H × List MemPlace} (ht : P.underlying t = some (.struct #[f0, f1, f2, f3, f4, f5])) (h : DataW.trod enc P w base spare held fuel t cs = some x) :
    ∃ y0 y1 y2 y3 y4 y5 n, x.1 = .agg [y0.1, y1.1, y2.1, y3.1, y4.1, y5.1] ∧ cs.length = P.cellsOf t ∧ DataW.trod enc P w base spare held n f0.type ((cs.drop f0.offset).take (P.cellsOf f0.type)) = some y0 ∧
      DataW.trod enc P w base spare held n f1.type ((cs.drop f1.offset).take (P.cellsOf f1.type)) = some y1 ∧ DataW.trod enc P w base spare held n f2.type ((cs.drop f2.offset).take (P.cellsOf f2.type)) = some y2 ∧ DataW.trod enc P w base spare held n f3.type ((cs.drop f3.offset).take (P.cellsOf f3.type)) = some y3 ∧ DataW.trod enc P w base spare held n f4.type ((cs.drop f4.offset).take (P.cellsOf f4.type)) = some y4 ∧ DataW.trod enc P w base spare held n f5.type ((cs.drop f5.offset).take (P.cellsOf f5.type)) = some y5 := by
  obtain ⟨xs, n, _, rfl, hl, hlen, hf⟩ := DataW.trod_struct ht h
  match xs, hlen with
  | [y0, y1, y2, y3, y4, y5], _ => exact ⟨y0, y1, y2, y3, y4, y5, n, by simp, hl, by simpa using hf 0 f0 rfl, by simpa using hf 1 f1 rfl, by simpa using hf 2 f2 rfl, by simpa using hf 3 f3 rfl, by simpa using hf 4 f4 rfl, by simpa using hf 5 f5 rfl⟩
theorem list6 (cs : List Value) (h : cs.length = 6) : ∃ a b c d e f, cs = [a, b, c, d, e, f] := by
  match cs, h with
  | [a, b, c, d, e, f], _ => exact ⟨a, b, c, d, e, f, rfl⟩
theorem msg_of_trod {H : Type} {enc : TypeId × Value → H} {W : World} {sp : Nat → Bool} {held : Bool} {n base : Nat} {cs : List Value} {x : DataW H × List MemPlace} (hf : DataW.trod enc Try.prog W base sp held n 28 cs = some x) (hw : ∀ n ∈ x.1.weights Try.prog 28, n ≤ reachBytes) :
    ∃ (M : MsgV) (c : MC), cs = (msA c).toList ∧ MsAt W M c ∧ MsOk M := by
  obtain ⟨y0, y1, y2, y3, y4, y5, k, hx, hl, h0, h1, h2, h3, h4, h5⟩ := trod_struct6 Try.underlying28 hf
  rw [Try.cellsOf28] at hl
  obtain ⟨a, b, c, d, e, f, rfl⟩ := list6 cs hl
  simp only [Try.cellsOf3, Try.cellsOf23, Try.cellsOf24, Try.cellsOf25, Try.cellsOf26, List.drop_zero, List.take_succ_cons, List.take_zero, List.drop_succ_cons] at h0 h1 h2 h3 h4 h5
  obtain ⟨n0, e0, w0⟩ := DataW.trod_int Try.underlying3 h0
  obtain ⟨n2, e2, w2⟩ := DataW.trod_int Try.underlying24 h2
  obtain ⟨hd, r1, r1b⟩ := hs_of_trod h1 (fun n hn => hw n (by
    rw [hx]
    simp only [DataW.weights, Try.underlying28]
    exact DataW.weights_mem_each (j := 1) (t := 23) rfl rfl n hn))
  obtain ⟨bl, r3, r3b, r3c⟩ := row_of_trod h3 (fun n hn => hw n (by
    rw [hx]
    simp only [DataW.weights, Try.underlying28]
    exact DataW.weights_mem_each (j := 3) (t := 25) rfl rfl n hn))
  obtain ⟨wt, r4, r4b⟩ := hs_of_trod h4 (fun n hn => hw n (by
    rw [hx]
    simp only [DataW.weights, Try.underlying28]
    exact DataW.weights_mem_each (j := 4) (t := 23) rfl rfl n hn))
  obtain ⟨bk, r5, r5b, r5c, r5d⟩ := rws_of_trod h5 (fun n hn => hw n (by
    rw [hx]
    simp only [DataW.weights, Try.underlying28]
    exact DataW.weights_mem_each (j := 5) (t := 26) rfl rfl n hn))
  simp at e0 e2
  exact ⟨⟨n0, hd, n2, bl, wt, bk⟩, ⟨n0, b, n2, d, e, f⟩, by rw [e0, e2]; rfl, ⟨rfl, rfl, r1, r3, r4, r5⟩, ⟨wf_i64 w0.2, wf_u64 w2.2, by show hd.length ≤ _; omega, by show bl.length ≤ _; omega, by show wt.length ≤ _; omega, r5b, r3b, r5c, r5d⟩⟩
end Go.Proofs.Ytlogkojhcccogaa
