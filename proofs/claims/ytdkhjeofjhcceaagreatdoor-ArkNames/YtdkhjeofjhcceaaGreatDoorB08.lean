import Derived.Test.YtdkhjeofjhcceaaGreatDoorB07
import Derived.Test.YtdkhjeofjhcceaaGreatDoorB05
import Derived.Test.YtdkhjeofjhcceaaGreatDoorB06
import Derived.Test.YtdkhjeofjhcceaaGreatDoorB01
import Derived.Test.YtdkhjeofjhcceaaGreatDoorB04
import Derived.Deep.RegionHeld3
namespace Go.Proofs.YtdkhjeofjhcceaaGreatDoor.Nd
open Go.RowKit
set_option linter.unusedSimpArgs false
set_option linter.unusedVariables false

section
variable {P : Program} {ops : Array Oper} {rest : List Oper} {o : Oper} {a : Act} {w : World} {Q : Exit → Act → World → Prop}
theorem WL.defer (hw : Region.wanted o (yielded ops a.tmps) = true) (d : Deferred) (hrun : (execOp a.eval o).run P w = .ok (.defer d) w)
    (h : WL P ops Q rest ({ a with defers := d :: a.defers }.put o.dst undef) w) : WL P ops Q (o :: rest) a w :=
  ⟨wpList_wanted hw fun _ hK => by unfold Oper.wp; rw [hrun, Oper.upon_defer]; exact hK _ _ h.out⟩
end
theorem assertW (v : Value) (W : World) : (Instr.typeAssert (.iface 84 v) 20 84 true).run Tryz.prog W = .ok (.tuple #[v, .bool true]) W := by kernel_rfl
theorem Tryz.new84 (w : World) : (Instr.alloc 84 true (.tuple #[])).run Tryz.prog w = .ok (.pointer (some ⟨w.heap.size, 0, none⟩)) (w.alloc (.cells #[.nilIface] 84)) := by kernel_rfl
theorem Tryz.new29 (w : World) : (Instr.alloc 29 true (.tuple #[])).run Tryz.prog w = .ok (.pointer (some ⟨w.heap.size, 0, none⟩)) (w.alloc (.cells #[.nilIface] 29)) := by kernel_rfl
theorem Tryz.size84 : (Tryz.prog.info? 84).map (·.size) = some 1 := by kernel_rfl
theorem Tryz.in11 (w : World) (vs : Array Value) : (callFunc 11 vs).run Tryz.prog w = .ok (.enter 11 vs) w := by kernel_rfl
theorem Tryz.in56 (w : World) (vs : Array Value) : (callFunc 56 vs).run Tryz.prog w = .ok (.enter 56 vs) w := by kernel_rfl
theorem caught_any (q : Nat) (w : World) : Calls Tryz.prog 11 #[.iface 84 (.agg #[err q])] w fun e w' => e = .returned (err q) ∧ Below w.heap.size w w' := by
  have has := assertW (.agg #[err q])
  unfold err at has ⊢
  go_enter Tryz.func11, Tryz.ntmps11
  refine wp_seq_k fun K1 hK1 => ?_
  refine wp_region_list (WL.out ?_)
  refine WL.val (by kernel_rfl) (.nilIface) (by go_simp) ?_
  simp only [Act.put, List.setIfInBounds_toArray, List.set_cons_zero, List.set_cons_succ]
  refine WL.nil ?_
  refine hK1 _ _ ?_
  refine wp_seq_k fun K2 hK2 => ?_
  refine wp_seq_k fun K3 hK3 => ?_
  refine wp_region_list (WL.out ?_)
  refine WL.val (by kernel_rfl) (.iface 84 (.agg #[.iface 121 (ptr q)])) (by go_simp) ?_
  simp only [Act.put, List.setIfInBounds_toArray, List.set_cons_zero, List.set_cons_succ]
  refine WL.val (by kernel_rfl) (.tuple #[.agg #[.iface 121 (ptr q)], .bool true]) (by go_simp) ?_
  simp only [Act.put, List.setIfInBounds_toArray, List.set_cons_zero, List.set_cons_succ]
  refine WL.val (by kernel_rfl) (.tuple #[.agg #[.iface 121 (ptr q)], .bool true]) (by go_simp) ?_
  simp only [Act.put, List.setIfInBounds_toArray, List.set_cons_zero, List.set_cons_succ]
  refine WL.val (by kernel_rfl) (.agg #[.iface 121 (ptr q)]) (by go_simp) ?_
  simp only [Act.put, List.setIfInBounds_toArray, List.set_cons_zero, List.set_cons_succ]
  refine WL.val (by kernel_rfl) (.bool true) (by go_simp) ?_
  simp only [Act.put, List.setIfInBounds_toArray, List.set_cons_zero, List.set_cons_succ]
  refine WL.new (by kernel_rfl) 84 rfl _ Tryz.new84 ?_
  have HX1 := Keep.mk (Blk.new w 84 #[.nilIface])
  have B1 := Keep.mk (below_new w (.cells #[.nilIface] 84))
  generalize w.alloc (.cells #[.nilIface] 84) = w1 at *
  simp only [Act.put, List.setIfInBounds_toArray, List.set_cons_zero, List.set_cons_succ]
  refine WL.storeR (by kernel_rfl) 84 (.tmp 3) (.tmp 8) rfl w.heap.size #[.iface 121 (ptr q)] rfl rfl 84 #[.nilIface] HX1.out Tryz.size84 rfl (by simp [Value.oneCell', ptr]) ?_
  have HX2 := Keep.mk (HX1.out.setRow #[.iface 121 (ptr q)])
  have B2 := Keep.mk (below_setRow B1.out (Nat.le_refl _) #[.iface 121 (ptr q)])
  generalize w1.setRow w.heap.size #[.iface 121 (ptr q)] = w2 at *
  have c0 := HX2.out.c 0 rfl
  simp only [Act.put]
  refine WL.val (by kernel_rfl) (.bool true) (by go_simp) ?_
  simp only [Act.put, List.setIfInBounds_toArray, List.set_cons_zero, List.set_cons_succ]
  refine WL.nil ?_
  refine hK3 _ _ ?_
  refine wp_seq_k fun K4 hK4 => ?_
  refine wp_region_list (WL.out ?_)
  refine WL.val (by kernel_rfl) (.bool true) (by go_simp) ?_
  simp only [Act.put, List.setIfInBounds_toArray, List.set_cons_zero, List.set_cons_succ]
  refine WL.nil ?_
  refine hK4 _ _ ?_
  refine wp_cond_true rfl ?_
  refine wp_seq_k fun K5 hK5 => ?_
  refine wp_region_list (WL.out ?_)
  refine WL.val (by kernel_rfl) (.pointer (some ⟨w.heap.size, 0, none⟩)) (by go_simp) ?_
  simp only [Act.put, List.setIfInBounds_toArray, List.set_cons_zero, List.set_cons_succ]
  refine WL.val (by kernel_rfl) (.iface 121 (ptr q)) (by go_simp) ?_
  simp only [Act.put, List.setIfInBounds_toArray, List.set_cons_zero, List.set_cons_succ]
  refine WL.val (by kernel_rfl) (.iface 121 (ptr q)) (by go_simp) ?_
  simp only [Act.put, List.setIfInBounds_toArray, List.set_cons_zero, List.set_cons_succ]
  refine WL.nil ?_
  refine hK5 _ _ ?_
  refine wp_ret ?_
  go_ret
  exact ⟨rfl, B2.out⟩
set_option maxRecDepth 8000 in
theorem catch_panicking (g2 g3 q : Nat) (old : Array Value) (w : World) (h2 : Blk w g2 53 old) (ho : old.size = 4) (h3 : Blk w g3 29 #[.nilIface]) :
    CallsD Tryz.prog 55 #[ptr g2, ptr g3] (.panicking [wr q]) w fun e u' w' => e = .returned (.tuple #[]) ∧ u' = .panicking [{ v := .iface 84 (.agg #[err q]), recovered := true }] ∧ Blk w' g2 53 (ndA 0 0 noS noS) ∧ Blk w' g3 29 #[err q] ∧ Grown w w' fun k => k = g2 ∨ k = g3 := by
  have H2 := Keep.mk h2
  have H3 := Keep.mk h3
  have Ho := Keep.mk ho
  have Hne : Keep (g2 ≠ g3) := ⟨blk_ne h2 h3 (by decide)⟩
  clear h2 h3 ho
  refine callsD_of_wpS Tryz.func55 rfl fun c₀ cs hu => ?_
  apply wpS_seq
  apply wpS_region
  unfold wr at hu
  simp [wpOpsS, go_sem, recoverD, hu, Tryz.ntmps55, Exit.thenS]
  apply wpS_seq
  apply wpS_region
  simp [wpOpsS, go_sem, Exit.thenS]
  refine wpS_cond (t := true) (by simp [Act.eval, Array.replicate]) ?_
  simp only [if_true]
  refine wpS_of_wp ?_
  refine wp_region_list (WL.out ?_)
  simp only [Array.replicate_succ, Array.replicate_zero, List.push_toArray, List.append_toArray, List.nil_append, List.cons_append, List.setIfInBounds_toArray, List.set_cons_zero, List.set_cons_succ]
  refine WL.bld (by kernel_rfl) 53 _ rfl [] (by simp) _ nd_built0 ?_
  simp only [Act.put, List.setIfInBounds_toArray, List.set_cons_zero, List.set_cons_succ]
  refine WL.val (by kernel_rfl) (.iface 84 (.agg #[err q])) (by go_simp) ?_
  simp only [Act.put, List.setIfInBounds_toArray, List.set_cons_zero, List.set_cons_succ]
  refine WL.callF (by kernel_rfl) 11 _ _ rfl Tryz.in11 #[.iface 84 (.agg #[err q])] (by simp [Act.eval]) ?_
  refine (caught_any q w).mono ?_
  rintro e w1 ⟨rfl, hb1⟩
  refine ⟨_, rfl, ?_⟩
  have B1 := Keep.mk hb1
  have H21 := Keep.mk (H2.out.below hb1 H2.out.lt)
  have H31 := Keep.mk (H3.out.below hb1 H3.out.lt)
  clear hb1
  simp only [Act.put, List.setIfInBounds_toArray, List.set_cons_zero, List.set_cons_succ]
  refine WL.storeR (by kernel_rfl) 53 (.tmp 0) (.tmp 6) rfl g2 (ndA 0 0 noS noS) rfl rfl 53 old H21.out (Tryz.size53B _ _ _ _) (by rw [Ho.out]; rfl) (nd_one 0 0 none 0 0 none 0 0) ?_
  have H22 := Keep.mk (H21.out.setRow (ndA 0 0 noS noS))
  have H32 := Keep.mk (H31.out.setRow_ne (b' := g2) (fun e => Hne.out e.symm) (ndA 0 0 noS noS))
  have G2 : Keep (Grown w (w1.setRow g2 (ndA 0 0 noS noS)) fun k => k = g2 ∨ k = g3) := ⟨(Grown.below B1.out).trans (Grown.setRow w1 g2 _ fun _ => .inl rfl)⟩
  generalize w1.setRow g2 (ndA 0 0 noS noS) = w2 at *
  simp only [Act.put]
  have c0 := H32.out.c 0 rfl
  have f0 := H32.out.frozen 0
  refine WL.cell (by kernel_rfl) (w2.setCell ⟨g3, 0, none⟩ (err q)) (by unfold err; go_simp) ?_
  have H33 := Keep.mk (H32.out.set 0 (err q))
  have H23 := Keep.mk (H22.out.set_ne (b' := g3) (j := 0) Hne.out (err q))
  have G3 : Keep (Grown w (w2.setCell ⟨g3, 0, none⟩ (err q)) fun k => k = g2 ∨ k = g3) := ⟨G2.out.trans (Grown.setCell w2 g3 0 _ fun _ => .inr rfl)⟩
  generalize w2.setCell ⟨g3, 0, none⟩ (err q) = w3 at *
  simp only [Act.put]
  refine WL.nil ?_
  exact ⟨rfl, _, rfl, _, results_none rfl _ _ _, rfl, rfl, H23.out, H33.out, G3.out⟩
set_option maxRecDepth 8000 in
theorem catch_idle (g2 g3 : Nat) (w : World) :
    CallsD Tryz.prog 55 #[ptr g2, ptr g3] .returning w fun e u' w' => e = .returned (.tuple #[]) ∧ u' = .returning ∧ w' = w := by
  refine callsD_of_wpS Tryz.func55 rfl fun c₀ cs hu => ?_
  apply wpS_seq
  apply wpS_region
  simp [wpOpsS, go_sem, recoverD, hu, Tryz.ntmps55, Exit.thenS]
  apply wpS_seq
  apply wpS_region
  simp [wpOpsS, go_sem, Exit.thenS]
  refine wpS_cond (t := false) (by simp [Act.eval, Array.replicate]) ?_
  simp only [Bool.false_eq_true, if_false]
  refine wpS_of_wp (wp_skip ?_)
  cases c₀
  simp_all [bodyPostS, results, Tryz.results55]
theorem load_err (w : World) (g : Nat) (x : Value) (h : Blk w g 29 #[x]) : (loadVar 29 ⟨g, 0, none⟩).run Tryz.prog w = .ok x w := by
  have c0 := h.c 0 rfl
  go_simp
theorem results_cells (tmps : Array Value) (w : World) (g g' : Nat) (cs : Array Value) (x : Value)
    (hp : tmps.getD 2 undef = .pointer (some ⟨g, 0, none⟩)) (hq : tmps.getD 3 undef = .pointer (some ⟨g', 0, none⟩)) (hg : Blk w g 53 cs) (hg' : Blk w g' 29 #[x]) (hi : cs.size = 4) :
    (results Tryz.f30 tmps).run Tryz.prog w = .ok (.tuple #[.agg cs, x]) w := by
  have hr := run_loadVar_row (P := Tryz.prog) w g 53 53 cs (0, 0) _ hg Tryz.underlying53 rfl (by rw [hi]; exact Tryz.size53)
  have hx := load_err w g' x hg'
  simp only [results, Tryz.results30]
  simp only [Array.getD_eq_getD_getElem?] at hp hq
  simp [Result.andThen, asAddr, hp, hq, hr, hx]
theorem below_of_grown {w w3 w4 w5 : World} {p g g3 : Nat} (h1 : Below w.heap.size w w3) (h2 : Grown w3 w4 fun k => k = p) (h3 : Grown w4 w5 fun k => k = g ∨ k = g3) (hp : w.heap.size ≤ p) (hg : w.heap.size ≤ g ∧ w.heap.size ≤ g3) : Below w.heap.size w w5 :=
  ⟨h3.os.trans (h2.os.trans h1.os), h3.tape.trans (h2.tape.trans h1.tape), h3.output.trans (h2.output.trans h1.output), Nat.le_trans h1.size (Nat.le_trans h2.size h3.size), fun k hk =>
    (h3.block k (Nat.lt_of_lt_of_le hk (Nat.le_trans h1.size h2.size)) (fun e => by rcases e with rfl | rfl <;> omega)).trans ((h2.block k (Nat.lt_of_lt_of_le hk h1.size) (fun e => by omega)).trans (h1.block k hk))⟩
def badR (l : List Int) : Int × Nat := if 1048576 < l.length then (4, 1048576) else ((decR l).1, (decR l).2.1)
def DecPost (l : List Int) (w : World) (e : Ending) (w' : World) : Prop :=
  (l.length ≤ 1048576 ∧ (decR l).1 = 0 ∧ ∃ vp vo, e = .returned (.tuple #[.agg (ndA (decR l).2.2.au (decR l).2.2.ck vp vo), .nilIface]) ∧ OwnH w' vp (decR l).2.2.ps ∧ OwnO w' vo (decR l).2.2.ops ∧ (∀ k, vp.ownBlock = some k → w.heap.size ≤ k) ∧ (∀ k, vo.ownBlock = some k → w.heap.size ≤ k) ∧ (∀ x ∈ (decR l).2.2.ops, OpOk x) ∧ (decR l).2.2.ops.length ≤ 1024 ∧ Below w.heap.size w w')
  ∨ ((1048576 < l.length ∨ (¬ 1048576 < l.length ∧ (decR l).1 ≠ 0)) ∧ ∃ q, w.heap.size ≤ q ∧ e = .returned (.tuple #[.agg (ndA 0 0 noS noS), err q]) ∧ BadAt w' q (badR l).1 (badR l).2 ∧ Below w.heap.size w w')
set_option maxRecDepth 8000 in
set_option maxHeartbeats 4000000 in
theorem decode_any (v : Value) (l : List Int) (w : World) (hr : RowAt w v l) (hB : Byts l) : Calls Tryz.prog 30 #[v] w (DecPost l w) := by
  obtain ⟨va, vc, rfl⟩ := row_form hr
  have HR := Keep.mk hr
  have hmf : ∀ (fn : Fn) (first cap : Array Value) (w : World), (Instr.makeFunc fn first cap).run Tryz.prog w = .ok (.func fn first cap) w := fun _ _ _ _ => rfl
  have Hlst : Keep (lst (strOfNums l) = l) := ⟨lst_nums hB⟩
  have HRl : Keep (1048576 < l.length → badR l = (4, 1048576)) := ⟨fun h => if_pos h⟩
  have HRs : Keep (¬ 1048576 < l.length → badR l = ((decR l).1, (decR l).2.1)) := ⟨fun h => if_neg h⟩
  have HSz : Keep ((strOfNums l).size = l.length) := ⟨str_size hB⟩
  clear hr hB
  go_enter_defers Tryz.func30, Tryz.ntmps30
  refine wp_seq_k fun K1 hK1 => ?_
  refine wp_region_list (WL.out ?_)
  refine WL.new (by kernel_rfl) 53 rfl _ Tryz.new53N ?_
  have HN1 := Keep.mk (Blk.new w 53 (ndA 0 0 noS noS))
  have B1 := Keep.mk (below_new w (.cells (ndA 0 0 noS noS) 53))
  generalize w.alloc (.cells (ndA 0 0 noS noS) 53) = w1 at *
  simp only [Act.put, List.setIfInBounds_toArray, List.set_cons_zero, List.set_cons_succ]
  refine WL.new (by kernel_rfl) 29 rfl _ Tryz.new29 ?_
  have HN2 := Keep.mk (HN1.out.alloc (.cells #[.nilIface] 29))
  have HE2 := Keep.mk (Blk.new w1 29 #[.nilIface])
  have B2 : Keep (Below w.heap.size w (w1.alloc (.cells #[.nilIface] 29))) := ⟨B1.out.trans ((below_new w1 _).mono B1.out.size)⟩
  have Hg : Keep (w.heap.size < w1.heap.size) := ⟨HN1.out.lt⟩
  generalize w1.alloc (.cells #[.nilIface] 29) = w2 at *
  generalize w1.heap.size = g3 at *
  simp only [Act.put, List.setIfInBounds_toArray, List.set_cons_zero, List.set_cons_succ]
  refine WL.nil ?_
  refine hK1 _ _ ?_
  refine wp_seq_k fun K2 hK2 => ?_
  refine wp_seq_k fun K3 hK3 => ?_
  refine wp_region_list (WL.out ?_)
  refine WL.val (by kernel_rfl) (.slice va l.length vc) (by go_simp) ?_
  simp only [Act.put, List.setIfInBounds_toArray, List.set_cons_zero, List.set_cons_succ]
  refine WL.val (by kernel_rfl) (.int .i64 (l.length : Int)) (by go_simp) ?_
  simp only [Act.put, List.setIfInBounds_toArray, List.set_cons_zero, List.set_cons_succ]
  by_cases h1_2 : 1048576 < l.length
  · have h1_2i : (1048576 : Int) < (l.length : Int) := by omega
    refine WL.val (by kernel_rfl) (.bool true) (by go_simp) ?_
    simp only [Act.put, List.setIfInBounds_toArray, List.set_cons_zero, List.set_cons_succ]
    refine WL.nil ?_
    refine hK3 _ _ ?_
    refine wp_cond_true rfl ?_
    refine wp_seq_k fun K4 hK4 => ?_
    refine wp_region_list (WL.out ?_)
    refine WL.bld (by kernel_rfl) 53 _ rfl [] (by simp) _ nd_built0 ?_
    simp only [Act.put, List.setIfInBounds_toArray, List.set_cons_zero, List.set_cons_succ]
    refine WL.bld (by kernel_rfl) 123 _ rfl [(0, .int .i64 4), (1, .int .i64 1048576)] (by simp [Act.eval]) _ (bad_built 4 1048576) ?_
    simp only [Act.put, List.setIfInBounds_toArray, List.set_cons_zero, List.set_cons_succ]
    refine WL.box (by kernel_rfl) 123 (.tmp 8) rfl _ rfl ?_
    have HBd : Keep (BadAt (w2.alloc (.cells #[.int .i64 4, .int .i64 1048576] 123)) w2.heap.size 4 1048576) := ⟨Blk.new w2 123 _⟩
    have HN3 := Keep.mk (HN2.out.alloc (.cells #[.int .i64 4, .int .i64 1048576] 123))
    have HE3 := Keep.mk (HE2.out.alloc (.cells #[.int .i64 4, .int .i64 1048576] 123))
    have B3 : Keep (Below w.heap.size w (w2.alloc (.cells #[.int .i64 4, .int .i64 1048576] 123))) := ⟨B2.out.trans ((below_new w2 _).mono B2.out.size)⟩
    have Hq : Keep (w.heap.size ≤ w2.heap.size) := ⟨B2.out.size⟩
    generalize w2.alloc (.cells #[.int .i64 4, .int .i64 1048576] 123) = w3 at *
    generalize w2.heap.size = q at *
    simp only [Act.put, List.setIfInBounds_toArray, List.set_cons_zero, List.set_cons_succ]
    refine WL.val (by kernel_rfl) (.iface 121 (ptr q)) (by go_simp) ?_
    simp only [Act.put, List.setIfInBounds_toArray, List.set_cons_zero, List.set_cons_succ]
    refine WL.storeR (by kernel_rfl) 53 (.tmp 2) (.tmp 7) rfl w.heap.size (ndA 0 0 noS noS) rfl rfl 53 (ndA 0 0 noS noS) HN3.out (Tryz.size53B _ _ _ _) rfl (nd_one 0 0 none 0 0 none 0 0) ?_
    have HN4 := Keep.mk (HN3.out.setRow (ndA 0 0 noS noS))
    have HE4 := Keep.mk (HE3.out.setRow_ne (b' := w.heap.size) (by have := Hg.out; omega) (ndA 0 0 noS noS))
    have HB4 : Keep (BadAt (w3.setRow w.heap.size (ndA 0 0 noS noS)) q 4 1048576) := ⟨HBd.out.setRow_ne (blk_ne HBd.out HN3.out (by decide)) _⟩
    have B4 : Keep (Below w.heap.size w (w3.setRow w.heap.size (ndA 0 0 noS noS))) := ⟨below_setRow B3.out (Nat.le_refl _) _⟩
    generalize w3.setRow w.heap.size (ndA 0 0 noS noS) = w4 at *
    have c0 := HE4.out.c 0 rfl
    have f0 := HE4.out.frozen 0
    simp only [Act.put]
    refine WL.cell (by kernel_rfl) (w4.setCell ⟨g3, 0, none⟩ (.iface 121 (ptr q))) (by go_simp) ?_
    have HE5 := Keep.mk (HE4.out.set 0 (.iface 121 (ptr q)))
    have HN5 := Keep.mk (HN4.out.set_ne (b' := g3) (j := 0) (by have := Hg.out; omega) (.iface 121 (ptr q)))
    have HB5 : Keep (BadAt (w4.setCell ⟨g3, 0, none⟩ (.iface 121 (ptr q))) q 4 1048576) := ⟨HB4.out.set_ne (blk_ne HB4.out HE4.out (by decide)) _⟩
    have B5 : Keep (Below w.heap.size w (w4.setCell ⟨g3, 0, none⟩ (.iface 121 (ptr q)))) := ⟨B4.out.setCell (by show w.heap.size ≤ g3; have := Hg.out; omega) _⟩
    generalize w4.setCell ⟨g3, 0, none⟩ (.iface 121 (ptr q)) = w5 at *
    simp only [Act.put]
    refine WL.nil ?_
    refine hK4 _ _ ?_
    refine wp_ret ?_
    try simp only [Exit.inBlock, Exit.then]
    refine ⟨.tuple #[.agg (ndA 0 0 noS noS), .iface 121 (ptr q)], results_cells _ _ w.heap.size g3 _ _ rfl rfl HN5.out HE5.out rfl, ?_⟩
    exact .inr ⟨.inl h1_2, q, Hq.out, rfl, by rw [HRl.out h1_2]; exact HB5.out, B5.out⟩
  · have h1_2i : ¬ (1048576 : Int) < (l.length : Int) := by omega
    refine WL.val (by kernel_rfl) (.bool false) (by go_simp) ?_
    simp only [Act.put, List.setIfInBounds_toArray, List.set_cons_zero, List.set_cons_succ]
    refine WL.nil ?_
    refine hK3 _ _ ?_
    refine wp_cond_false rfl ?_
    refine wp_skip ?_
    refine hK2 _ _ ?_
    refine wp_seq_k fun K5 hK5 => ?_
    have HNl : Keep (¬ 1048576 < l.length) := ⟨h1_2⟩
    have HRn := Keep.mk (HRs.out h1_2)
    have HS : Keep ((strOfNums l).size ≤ 140737488355328) := ⟨by rw [HSz.out]; omega⟩
    refine wp_region_list (WL.out ?_)
    refine WL.val (by kernel_rfl) (.func (.func 55) #[] #[.pointer (some ⟨w.heap.size, 0, none⟩), .pointer (some ⟨g3, 0, none⟩)]) (by go_simp) ?_
    simp only [Act.put, List.setIfInBounds_toArray, List.set_cons_zero, List.set_cons_succ]
    refine WL.defer (by kernel_rfl) { target := .fn (.func 55) #[.pointer (some ⟨w.heap.size, 0, none⟩), .pointer (some ⟨g3, 0, none⟩)], args := #[] } (by go_simp) ?_
    simp only [Act.put]
    refine WL.nil ?_
    refine hK5 _ _ ?_
    refine wp_seq_k fun K6 hK6 => ?_
    refine wp_region_list (WL.out ?_)
    refine WL.val (by kernel_rfl) (.slice va l.length vc) (by go_simp) ?_
    simp only [Act.put, List.setIfInBounds_toArray, List.set_cons_zero, List.set_cons_succ]
    refine WL.callF (by kernel_rfl) 42 _ _ rfl Tryz.in42 #[.slice va l.length vc] (by simp [Act.eval]) ?_
    refine (newIn_any _ l w2 (HR.out.below B2.out)).mono ?_
    rintro e w4 ⟨rfl, hw4⟩
    refine ⟨_, rfl, ?_⟩
    rw [hw4]
    clear hw4 w4
    have HI3 : Keep (InAt (w2.alloc (.cells #[.string (strOfNums l), .int .i64 0, .pointer none] 136)) w2.heap.size (strOfNums l) 0 none) := ⟨Blk.new w2 136 _, Nat.zero_le _⟩
    have HN3 := Keep.mk (HN2.out.alloc (.cells #[.string (strOfNums l), .int .i64 0, .pointer none] 136))
    have HE3 := Keep.mk (HE2.out.alloc (.cells #[.string (strOfNums l), .int .i64 0, .pointer none] 136))
    have B3 : Keep (Below w.heap.size w (w2.alloc (.cells #[.string (strOfNums l), .int .i64 0, .pointer none] 136))) := ⟨B2.out.trans ((below_new w2 _).mono B2.out.size)⟩
    have Hp : Keep (g3 < w2.heap.size) := ⟨HE2.out.lt⟩
    generalize w2.alloc (.cells #[.string (strOfNums l), .int .i64 0, .pointer none] 136) = w3 at *
    generalize w2.heap.size = p at *
    simp only [Act.put, List.setIfInBounds_toArray, List.set_cons_zero, List.set_cons_succ]
    refine WL.callP (by kernel_rfl) 56 _ _ rfl Tryz.in56 #[ptr p] (by simp [Act.eval]) ?_
    refine (readBlock_any p (strOfNums l) w3 HI3.out HS.out).mono ?_
    rw [Hlst.out]
    rintro e w4 (⟨e1, vp, vo, rfl, h2, h3, h4, h5, h6, h7, h8⟩ | hgv)
    rotate_left
    · have hne := hgv.1
      obtain ⟨q, hq, rfl, hbad, hgr⟩ := hgv.2
      refine .inr ⟨_, rfl, ?_⟩
      try simp only [Exit.inBlock, Exit.then]
      refine leaves_cons (f := 55) (args := #[ptr w.heap.size, ptr g3]) (by simp) (by simp [go_sem, ptr]) ?_
      refine (catch_panicking w.heap.size g3 q (ndA 0 0 noS noS) w4 (hgr.blk HN3.out (blk_ne HN3.out HI3.out.blk (by decide))) rfl (hgr.blk HE3.out (blk_ne HE3.out HI3.out.blk (by decide)))).mono ?_
      rintro e u' w5 ⟨rfl, rfl, i2, i3, i4⟩
      simp only [settle, List.dropWhile]
      refine ⟨.tuple #[.agg (ndA 0 0 noS noS), err q], results_cells _ _ w.heap.size g3 _ _ rfl rfl i2 i3 rfl, ?_⟩
      have hbl : Below w.heap.size w w5 := below_of_grown B3.out hgr i4 (by have := B3.out.size; have := Hp.out; have := Hg.out; omega) (by have := Hg.out; omega)
      refine .inr ⟨.inr ⟨HNl.out, hne⟩, q, Nat.le_trans B3.out.size hq, rfl, ?_, hbl⟩
      rw [HRn.out]
      exact i4.blk hbad (fun e => by rcases e with rfl | rfl; exact (blk_ne hbad (hgr.blk HN3.out (blk_ne HN3.out HI3.out.blk (by decide))) (by decide)) rfl; exact (blk_ne hbad (hgr.blk HE3.out (blk_ne HE3.out HI3.out.blk (by decide))) (by decide)) rfl)
    refine .inl ⟨_, rfl, ?_⟩
    have HE1 := Keep.mk e1
    have HN4 := Keep.mk (h8.blk HN3.out (blk_ne HN3.out HI3.out.blk (by decide)))
    have HE4 := Keep.mk (h8.blk HE3.out (blk_ne HE3.out HI3.out.blk (by decide)))
    have HO4 := Keep.mk h2
    have HQ4 := Keep.mk h3
    have HOn := Keep.mk h4
    have HQn := Keep.mk h5
    have Hok := Keep.mk h6
    have Hol := Keep.mk h7
    have HG4 := Keep.mk h8
    clear h2 h3 h4 h5 h6 h7 h8 e1
    obtain ⟨pa, pc, rfl⟩ := HO4.out.sl
    obtain ⟨qa, qc, rfl⟩ := HQ4.out.sl
    obtain ⟨N, hN⟩ : ∃ N, N = (decR l).2.2 := ⟨_, rfl⟩
    rw [← hN] at HO4 HQ4 Hok Hol ⊢
    have HNN := Keep.mk hN
    clear hN
    simp only [Act.put, List.setIfInBounds_toArray, List.set_cons_zero, List.set_cons_succ]
    refine WL.storeR (by kernel_rfl) 53 (.tmp 2) (.tmp 14) rfl w.heap.size (ndA N.au N.ck (.slice pa N.ps.length pc) (.slice qa N.ops.length qc)) rfl rfl 53 (ndA 0 0 noS noS) HN4.out (Tryz.size53B _ _ _ _) rfl (nd_one _ _ _ _ _ _ _ _) ?_
    have HN5 := Keep.mk (HN4.out.setRow (ndA N.au N.ck (.slice pa N.ps.length pc) (.slice qa N.ops.length qc)))
    have HE5 := Keep.mk (HE4.out.setRow_ne (b' := w.heap.size) (by have := Hg.out; omega) (ndA N.au N.ck (.slice pa N.ps.length pc) (.slice qa N.ops.length qc)))
    have Gs : Grown w4 (w4.setRow w.heap.size (ndA N.au N.ck (.slice pa N.ps.length pc) (.slice qa N.ops.length qc))) fun k => k = w.heap.size ∨ k = g3 := Grown.setRow w4 w.heap.size _ fun _ => .inl rfl
    have HO5 := Keep.mk (HO4.out.grown Gs (fun k hk e => by rcases e with rfl | rfl; exact HO4.out.ne HN4.out (by decide) hk; exact HO4.out.ne HE4.out (by decide) hk))
    have HQ5 := Keep.mk (HQ4.out.grown Gs (fun k hk e => by rcases e with rfl | rfl; exact HQ4.out.ne HN4.out (by decide) hk; exact HQ4.out.ne HE4.out (by decide) hk))
    have GG := Keep.mk Gs
    generalize w4.setRow w.heap.size (ndA N.au N.ck (.slice pa N.ps.length pc) (.slice qa N.ops.length qc)) = w5 at *
    have c0 := HE5.out.c 0 rfl
    have f0 := HE5.out.frozen 0
    clear Gs
    simp only [Act.put]
    refine WL.cell (by kernel_rfl) (w5.setCell ⟨g3, 0, none⟩ .nilIface) (by go_simp) ?_
    have HE6 := Keep.mk (HE5.out.set 0 .nilIface)
    have HN6 := Keep.mk (HN5.out.set_ne (b' := g3) (j := 0) (by have := Hg.out; omega) .nilIface)
    have Gs : Grown w5 (w5.setCell ⟨g3, 0, none⟩ .nilIface) fun k => k = w.heap.size ∨ k = g3 := Grown.setCell w5 g3 0 _ fun _ => .inr rfl
    have HO6 := Keep.mk (HO5.out.grown Gs (fun k hk e => by rcases e with rfl | rfl; exact HO5.out.ne HN5.out (by decide) hk; exact HO5.out.ne HE5.out (by decide) hk))
    have HQ6 := Keep.mk (HQ5.out.grown Gs (fun k hk e => by rcases e with rfl | rfl; exact HQ5.out.ne HN5.out (by decide) hk; exact HQ5.out.ne HE5.out (by decide) hk))
    have GG2 := Keep.mk (GG.out.trans Gs)
    generalize w5.setCell ⟨g3, 0, none⟩ .nilIface = w6 at *
    simp only [Act.put]
    refine WL.nil ?_
    refine hK6 _ _ ?_
    refine wp_ret ?_
    try simp only [Exit.inBlock, Exit.then]
    refine leaves_cons (f := 55) (args := #[ptr w.heap.size, ptr g3]) (by simp) (by simp [go_sem, ptr]) ?_
    refine (catch_idle w.heap.size g3 _).mono ?_
    rintro e u' w7 ⟨rfl, rfl, rfl⟩
    simp only [settle]
    refine ⟨.tuple #[.agg (ndA N.au N.ck (.slice pa N.ps.length pc) (.slice qa N.ops.length qc)), .nilIface], results_cells _ _ w.heap.size g3 _ _ rfl rfl HN6.out HE6.out rfl, ?_⟩
    have hbl : Below w.heap.size w w7 := below_of_grown B3.out HG4.out GG2.out (by have := B3.out.size; have := Hp.out; have := Hg.out; omega) (by have := Hg.out; omega)
    exact .inl ⟨by omega, HE1.out, _, _, by rw [← HNN.out], by rw [← HNN.out]; exact HO6.out, by rw [← HNN.out]; exact HQ6.out, fun k hk => Nat.le_trans B3.out.size (HOn.out k hk), fun k hk => Nat.le_trans B3.out.size (HQn.out k hk), by rw [← HNN.out]; exact Hok.out, by rw [← HNN.out]; exact Hol.out, hbl⟩
end Go.Proofs.YtdkhjeofjhcceaaGreatDoor.Nd
namespace Go.Proofs.YtdkhjeofjhcceaaGreatDoor.Nd
open Go.RowKit
set_option linter.unusedSimpArgs false
set_option linter.unusedVariables false

structure NdAt (w : World) (N : NodeV) (vp vo : Value) : Prop where
  ps : Sh.HRow w vp N.ps
  ops : OpsAt w vo N.ops
  ok : ∀ x ∈ N.ops, OpOk x
  lp : N.ps.length ≤ 4398046511104
  lo : N.ops.length ≤ 4398046511104
  bo : N.ops ≠ [] → ∀ k, vo.ownBlock = some k → k < w.heap.size
  a1 : -9223372036854775808 ≤ N.au
  a2 : N.au ≤ 9223372036854775807
  c1 : -9223372036854775808 ≤ N.ck
  c2 : N.ck ≤ 9223372036854775807
theorem NdAt.below {w w' : World} {N : NodeV} {vp vo : Value} (h : NdAt w N vp vo) (hb : Below w.heap.size w w') : NdAt w' N vp vo :=
  { h with ps := h.ps.below hb, ops := h.ops.below hb, bo := fun hne k hk => Nat.lt_of_lt_of_le (h.bo hne k hk) hb.size }
structure OL (w0 : World) (p : Nat) (v : Value) (l : List Int) (w : World) : Prop where
  out : OutAt w p v l
  new : w0.heap.size ≤ p
  own : ∀ k, v.ownBlock = some k → w0.heap.size ≤ k
  bel : Below w0.heap.size w0 w
theorem OL.step {w0 w w' : World} {p : Nat} {v v' : Value} {l l' : List Int} (h : OL w0 p v l w) (h1 : OutAt w' p v' l') (h2 : Moved w v v') (h3 : Grown w w' (OF p v)) : OL w0 p v' l' w' where
  out := h1
  new := h.new
  own := fun k hk => by
    rcases h2 with e | ⟨j, e, hj⟩
    · rw [e] at hk; exact h.own k hk
    · rw [e] at hk; injection hk with hk; have := h.bel.size; omega
  bel := h.bel.trans (h3.to_below (fun k hk e => by rcases e with rfl | e; have := h.new; omega; have := h.own k e; omega) h.bel.size)
theorem OL.below {w0 w w' : World} {p : Nat} {v : Value} {l : List Int} (h : OL w0 p v l w) (hb : Below w.heap.size w w') : OL w0 p v l w' := ⟨h.out.below hb, h.new, h.own, h.bel.trans (hb.mono h.bel.size)⟩
theorem OL.off {w0 w : World} {p : Nat} {v : Value} {l : List Int} (h : OL w0 p v l w) {k : Nat} (hk : k < w0.heap.size) : ¬ OF p v k := fun e => by
  rcases e with rfl | e
  · have := h.new; omega
  · have := h.own k e; omega
end Go.Proofs.YtdkhjeofjhcceaaGreatDoor.Nd
namespace Go.Proofs.YtdkhjeofjhcceaaGreatDoor.Nd
open Go.RowKit
set_option linter.unusedSimpArgs false
set_option linter.unusedVariables false

theorem Tryz.in30 (w : World) (vs : Array Value) : (callFunc 30 vs).run Tryz.prog w = .ok (.enter 30 vs) w := by kernel_rfl
end Go.Proofs.YtdkhjeofjhcceaaGreatDoor.Nd
namespace Go.Proofs.YtdkhjeofjhcceaaGreatDoor.Nd
open Go.RowKit
set_option linter.unusedSimpArgs false
set_option linter.unusedVariables false

theorem HRow.elem {w : World} {a : Option Addr} {n c : Nat} {l : List Hs} (h : Sh.HRow w (.slice a n c) l) {t : Nat} (ht : t < l.length) : ∃ b off, a = some ⟨b, off, none⟩ ∧ ∀ wx, Below w.heap.size w wx → wx.rangeAt b (off + t * 32) (Sh.encH (l.getD t default)) := by
  obtain ⟨b, off, h1, h2, h3, h4⟩ := h.at (by omega)
  refine ⟨b, off, h1, fun wx hb => ?_⟩
  have h5 := Sh.rangeAt_elem (Sh.rangeAt_below h4 hb (Sh.rangeAt_lt h4 (by omega))) t ht
  rwa [show l.getD t default = l[t] by simp [List.getD_eq_getElem?_getD, ht]]
end Go.Proofs.YtdkhjeofjhcceaaGreatDoor.Nd
namespace Go.Proofs.YtdkhjeofjhcceaaGreatDoor.Nd
open Go.RowKit
set_option linter.unusedSimpArgs false
set_option linter.unusedVariables false

def enL (c : Nat → Int) (N : Array Value) : List Value := (bytesA 32 c).toList ++ N.toList
def enA (c : Nat → Int) (N : Array Value) : Array Value := (enL c N).toArray
theorem enA_size (c : Nat → Int) (a k : Int) (x y : Value) : (enA c (ndA a k x y)).size = 36 := by simp [enA, enL, bytesA_size, ndA]
theorem Tryz.size55 : (Tryz.prog.info? 55).map (·.size) = some 36 := by kernel_rfl
theorem Tryz.size55B (c : Nat → Int) (a k : Int) (x y : Value) : (Tryz.prog.info? 55).map (·.size) = some (enA c (ndA a k x y)).size := by rw [enA_size]; exact Tryz.size55
def zEn : Array Value := enA (fun _ => 0) (ndA 0 0 noS noS)
theorem Tryz.new55 (w : World) : (Instr.alloc 55 true (.tuple #[])).run Tryz.prog w = .ok (.pointer (some ⟨w.heap.size, 0, none⟩)) (w.alloc (.cells zEn 55)) := by kernel_rfl
theorem en_built0 : Tryz.prog.built 55 [] = some zEn := by kernel_rfl
theorem enA_one (c : Nat → Int) (a k : Int) (pa : Option Addr) (pn pc : Nat) (oa : Option Addr) (on oc : Nat) : (enA c (ndA a k (.slice pa pn pc) (.slice oa on oc))).all (·.oneCell') = true := by
  rw [Array.all_eq_true_iff_forall_mem]
  intro v hv
  simp only [enA, enL, List.mem_toArray, List.mem_append] at hv
  rcases hv with h | h
  · rw [hl_bytesA] at h; exact bv_one _ v h
  · exact Array.all_eq_true_iff_forall_mem.1 (nd_one a k pa pn pc oa on oc) v (by simpa using h)
theorem run_bldEn (c : Nat → Int) (a k : Int) (x y : Value) (w : World) : (Next.value <$> Instr.build 55 #[(0, .agg (bytesA 32 c)), (1, .agg (ndA a k x y))]).run Tryz.prog w = .ok (.value (.agg (enA c (ndA a k x y)))) w := by kernel_rfl
theorem zEn_size : zEn.size = 36 := enA_size _ _ _ _ _
theorem yieldsIf_bld {P : Program} {ops : Array Oper} {S : World → Prop} {op : Oper} {a : Act} (hw : Region.wanted op (yielded ops a.tmps) = true) (t : TypeId) (parts : Array (Nat × Operand)) (ho : op.op = .build t parts)
    (vs : Array (Nat × Value)) (hv : (parts.map fun (i, x) => (i, a.eval x)) = vs) (v : Value) (hr : ∀ w : World, (Next.value <$> Instr.build t vs).run P w = .ok (.value v) w) : YieldsIf P ops S op v a :=
  .inl ⟨hw, fun w _ => by unfold execOp; simp only [ho, hv]; exact hr w⟩
end Go.Proofs.YtdkhjeofjhcceaaGreatDoor.Nd
namespace Go.Proofs.YtdkhjeofjhcceaaGreatDoor.Nd
open Go.RowKit
set_option linter.unusedSimpArgs false
set_option linter.unusedVariables false

theorem of_any (v : Value) (l : List Int) (w : World) (h : RowAt w v l) (hl : (l.length : Int) ≤ 576460752303423488) : Calls Tryz.prog 24 #[v] w fun e w' => e = .returned (.agg (bytesA 32 (Sh.shaP l))) ∧ Below w.heap.size w w' := Sh.of_any v l w h hl
end Go.Proofs.YtdkhjeofjhcceaaGreatDoor.Nd
namespace Go.Proofs.YtdkhjeofjhcceaaGreatDoor.Nd
open Go.RowKit
set_option linter.unusedSimpArgs false
set_option linter.unusedVariables false

theorem of_is (v : Value) (l : List Int) (w : World) (h : RowAt w v l) (hl : (l.length : Int) ≤ 576460752303423488) (c : Nat → Int) (hc : Sh.shaP l = c) : Calls Tryz.prog 24 #[v] w fun e w' => e = .returned (.agg (bytesA 32 c)) ∧ Below w.heap.size w w' := by
  have := of_any v l w h hl
  rw [hc] at this
  exact this
def EntP (l : List Int) (w : World) (e : Ending) (w' : World) : Prop :=
  (l.length ≤ 1048576 ∧ (decR l).1 = 0 ∧ ∃ vp vo, e = .returned (.tuple #[.agg (enA (Sh.shaP l) (ndA (decR l).2.2.au (decR l).2.2.ck vp vo)), .nilIface]) ∧ OwnH w' vp (decR l).2.2.ps ∧ OwnO w' vo (decR l).2.2.ops ∧ (∀ x ∈ (decR l).2.2.ops, OpOk x) ∧ (decR l).2.2.ops.length ≤ 1024 ∧ Below w.heap.size w w')
  ∨ ((1048576 < l.length ∨ (¬ 1048576 < l.length ∧ (decR l).1 ≠ 0)) ∧ ∃ q, w.heap.size ≤ q ∧ e = .returned (.tuple #[.agg zEn, err q]) ∧ BadAt w' q (badR l).1 (badR l).2 ∧ Below w.heap.size w w')
theorem Tryz.in24 (w : World) (vs : Array Value) : (callFunc 24 vs).run Tryz.prog w = .ok (.enter 24 vs) w := by kernel_rfl
set_option maxRecDepth 8000 in
set_option maxHeartbeats 2000000 in
theorem entry_any (v : Value) (l : List Int) (w : World) (hr : RowAt w v l) (hB : Byts l) : Calls Tryz.prog 13 #[v] w (EntP l w) := by
  obtain ⟨va, vc, rfl⟩ := row_form hr
  have HR := Keep.mk hr
  have HBy := Keep.mk hB
  clear hr hB
  go_enter Tryz.func13, Tryz.ntmps13
  refine wp_seq_k fun K1 hK1 => ?_
  refine wp_region_list (WL.out ?_)
  refine WL.new (by kernel_rfl) 55 rfl _ Tryz.new55 ?_
  have HE1 := Keep.mk (Blk.new w 55 zEn)
  have B1 := Keep.mk (below_new w (.cells zEn 55))
  generalize w.alloc (.cells zEn 55) = w1 at *
  have HR1 := Keep.mk (HR.out.below B1.out)
  have Bx1 : Keep (w.heap.size ≤ w1.heap.size) := ⟨B1.out.size⟩
  have Hlt : Keep (w.heap.size < w1.heap.size) := ⟨HE1.out.lt⟩
  simp only [Act.put, List.setIfInBounds_toArray, List.set_cons_zero, List.set_cons_succ]
  refine WL.val (by kernel_rfl) (.nilIface) (by go_simp) ?_
  simp only [Act.put, List.setIfInBounds_toArray, List.set_cons_zero, List.set_cons_succ]
  refine WL.nil ?_
  refine hK1 _ _ ?_
  refine wp_seq_k fun K2 hK2 => ?_
  refine wp_region_list (WL.out ?_)
  refine WL.val (by kernel_rfl) (.slice va l.length vc) (by go_simp) ?_
  simp only [Act.put, List.setIfInBounds_toArray, List.set_cons_zero, List.set_cons_succ]
  refine WL.callF (by kernel_rfl) 30 _ _ rfl Tryz.in30 #[.slice va l.length vc] (by simp [Act.eval]) ?_
  refine (decode_any _ l w1 HR1.out HBy.out).mono ?_
  rintro e w2 (⟨h1, h2, vp, vo, rfl, h3, h4, h5, h6, h7, h8, hb2⟩ | ⟨h1, q, hq, rfl, hbad, hb2⟩)
  · refine ⟨_, rfl, ?_⟩
    have H1 := Keep.mk h1
    have H2 := Keep.mk h2
    have HO2 := Keep.mk h3
    have HQ2 := Keep.mk h4
    have Hok := Keep.mk h7
    have Hol := Keep.mk h8
    have BD := Keep.mk hb2
    clear h1 h2 h3 h4 h5 h6 h7 h8 hb2
    obtain ⟨pa, pc, rfl⟩ := HO2.out.sl
    obtain ⟨qa, qc, rfl⟩ := HQ2.out.sl
    obtain ⟨N, hN⟩ : ∃ N, N = (decR l).2.2 := ⟨_, rfl⟩
    rw [← hN] at HO2 HQ2 Hok Hol ⊢
    have HNN := Keep.mk hN
    clear hN
    have HE2 := Keep.mk (HE1.out.below BD.out HE1.out.lt)
    have HR2 := Keep.mk (HR1.out.below BD.out)
    have B2 : Keep (Below w.heap.size w w2) := ⟨B1.out.trans (BD.out.mono Bx1.out)⟩
    simp only [Act.put, List.setIfInBounds_toArray, List.set_cons_zero, List.set_cons_succ]
    refine WL.val (by kernel_rfl) (.tuple #[.agg (ndA N.au N.ck (.slice pa N.ps.length pc) (.slice qa N.ops.length qc)), .nilIface]) (by go_simp) ?_
    simp only [Act.put, List.setIfInBounds_toArray, List.set_cons_zero, List.set_cons_succ]
    refine WL.val (by kernel_rfl) (.agg (ndA N.au N.ck (.slice pa N.ps.length pc) (.slice qa N.ops.length qc))) (by go_simp) ?_
    simp only [Act.put, List.setIfInBounds_toArray, List.set_cons_zero, List.set_cons_succ]
    refine WL.val (by kernel_rfl) (.nilIface) (by go_simp) ?_
    simp only [Act.put, List.setIfInBounds_toArray, List.set_cons_zero, List.set_cons_succ]
    refine WL.new (by kernel_rfl) 53 rfl _ Tryz.new53N ?_
    simp only [Act.put, List.setIfInBounds_toArray, List.set_cons_zero, List.set_cons_succ]
    refine WL.storeR (by kernel_rfl) 53 (.tmp 4) (.tmp 9) rfl w2.heap.size (ndA N.au N.ck (.slice pa N.ps.length pc) (.slice qa N.ops.length qc)) rfl rfl 53 (ndA 0 0 noS noS) (Blk.new w2 53 _) (Tryz.size53B _ _ _ _) rfl (nd_one _ _ _ _ _ _ _ _) ?_
    have HN3 := Keep.mk ((Blk.new w2 53 (ndA 0 0 noS noS)).setRow (ndA N.au N.ck (.slice pa N.ps.length pc) (.slice qa N.ops.length qc)))
    have BS3 : Keep (Below w2.heap.size w2 ((w2.alloc (.cells (ndA 0 0 noS noS) 53)).setRow w2.heap.size (ndA N.au N.ck (.slice pa N.ps.length pc) (.slice qa N.ops.length qc)))) := ⟨below_setRow (below_new w2 _) (Nat.le_refl _) _⟩
    generalize (w2.alloc (.cells (ndA 0 0 noS noS) 53)).setRow w2.heap.size (ndA N.au N.ck (.slice pa N.ps.length pc) (.slice qa N.ops.length qc)) = w3 at *
    have B3 : Keep (Below w.heap.size w w3) := ⟨B2.out.trans (BS3.out.mono B2.out.size)⟩
    have HE3 := Keep.mk (HE2.out.below BS3.out HE2.out.lt)
    have HR3 := Keep.mk (HR2.out.below BS3.out)
    have HO3 := Keep.mk (HO2.out.below BS3.out)
    have HQ3 := Keep.mk (HQ2.out.below BS3.out)
    simp only [Act.put]
    refine WL.val (by kernel_rfl) (.nilIface) (by go_simp) ?_
    simp only [Act.put, List.setIfInBounds_toArray, List.set_cons_zero, List.set_cons_succ]
    refine WL.nil ?_
    refine hK2 _ _ ?_
    refine wp_seq_k fun K3 hK3 => ?_
    refine wp_seq_k fun K4 hK4 => ?_
    refine wp_region_list (WL.out ?_)
    refine WL.val (by kernel_rfl) (.nilIface) (by go_simp) ?_
    simp only [Act.put, List.setIfInBounds_toArray, List.set_cons_zero, List.set_cons_succ]
    refine WL.val (by kernel_rfl) (.bool false) (by go_simp) ?_
    simp only [Act.put, List.setIfInBounds_toArray, List.set_cons_zero, List.set_cons_succ]
    refine WL.nil ?_
    refine hK4 _ _ ?_
    refine wp_cond_false rfl ?_
    refine wp_skip ?_
    refine hK3 _ _ ?_
    refine wp_seq_k fun K5 hK5 => ?_
    have hD0 : Below w3.heap.size w3 w3.drew := (Below.refl _ _).drew
    obtain ⟨hc, hhc⟩ : ∃ hc, Sh.shaP l = hc := ⟨_, rfl⟩
    have Hhc := Keep.mk hhc
    clear hhc
    obtain ⟨EN, hEN⟩ : ∃ EN, EN = enA hc (ndA N.au N.ck (.slice pa N.ps.length pc) (.slice qa N.ops.length qc)) := ⟨_, rfl⟩
    have HEs : Keep (EN.size = 36) := ⟨by rw [hEN]; exact enA_size _ _ _ _ _⟩
    have HEo : Keep (EN.all (·.oneCell') = true) := ⟨by rw [hEN]; exact enA_one _ _ _ _ _ _ _ _ _⟩
    have HEr : Keep (∀ w : World, (Next.value <$> Instr.build 55 #[(0, .agg (bytesA 32 hc)), (1, .agg (ndA N.au N.ck (.slice pa N.ps.length pc) (.slice qa N.ops.length qc)).toList.toArray)]).run Tryz.prog w = .ok (.value (.agg EN)) w) := ⟨fun w => by rw [hEN]; exact run_bldEn _ _ _ _ _ w⟩
    have HEe := Keep.mk hEN
    clear hEN
    have HS0 : Keep (∀ wx, Below w3.heap.size w3 wx → wx.rangeAt w2.heap.size 0 (ndA N.au N.ck (.slice pa N.ps.length pc) (.slice qa N.ops.length qc)).toList) := ⟨fun wx hb => blk_range (HN3.out.below hb HN3.out.lt)⟩
    refine wp_region_held_drew (S := fun wx => wx.rangeAt w2.heap.size 0 (ndA N.au N.ck (.slice pa N.ps.length pc) (.slice qa N.ops.length qc)).toList) (by kernel_rfl) (HS0.out _ hD0) (fun hHeld => ?_)
    refine wpAnyH_take (i := 0) (oi := ⟨some 15, Op.move (Operand.tmp 0), 32, _, _, none⟩) (v := .slice va l.length vc) rfl (by kernel_rfl) (by kernel_rfl) (by kernel_rfl) (fun _ _ _ h => h) (Or.inl ⟨by rfl, fun w hS => by go_simp⟩) hHeld ?_
    simp only [Act.put, List.setIfInBounds_toArray, List.set_cons_zero, List.set_cons_succ]
    refine wpAnyH_take (i := 2) (oi := ⟨some 17, Op.load 53 (Operand.tmp 4), 53, _, _, none⟩) (v := .agg (ndA N.au N.ck (.slice pa N.ps.length pc) (.slice qa N.ops.length qc)).toList.toArray) rfl (by kernel_rfl) (by kernel_rfl) (by kernel_rfl) (fun _ _ _ h => h) (yieldsIf_load_mid (by rfl) 53 (Operand.tmp 4) rfl w2.heap.size 0 rfl (ndA N.au N.ck (.slice pa N.ps.length pc) (.slice qa N.ops.length qc)).toList _ (fun w hS => hS) Tryz.underlying53 rfl (Tryz.size53B _ _ _ _)) hHeld ?_
    simp only [Act.put, List.setIfInBounds_toArray, List.set_cons_zero, List.set_cons_succ]
    refine wpAnyH_ready (rs := [1]) (by kernel_rfl) (by simp) ?_
    refine AllReadyH.cons (o := ⟨some 16, Op.call { callee := Callee.value (Operand.func 24), args := #[Operand.tmp 15], argTypes := #[32] }, 50, _, _, none⟩) rfl (fun K hK => ?_) AllReadyH.nil
    rw [if_pos (by rfl)]
    refine wp_callF 24 _ _ rfl Tryz.in24 #[.slice va l.length vc] (by simp [Act.eval]) (fun vz wz => vz = .agg (bytesA 32 hc) ∧ Below w3.heap.size w3 wz) ?_ ?_
    · refine (of_is _ l w3.drew (HR3.out.below hD0) (by have := H1.out; omega) hc Hhc.out).mono ?_
      rintro e wz ⟨rfl, h⟩
      exact ⟨_, rfl, rfl, hD0.trans (h.mono hD0.size)⟩
    rintro vz w7 ⟨rfl, h7⟩
    have HB7 := Keep.mk h7
    clear h7
    refine hK.out _ _ (HS0.out _ HB7.out) fun hHeld2 => ?_
    clear hK
    simp only [Act.put, List.setIfInBounds_toArray, List.set_cons_zero, List.set_cons_succ]
    refine wpAnyH_take (i := 3) (oi := ⟨some 18, Op.build 55 #[(0, Operand.tmp 16), (1, Operand.tmp 17)], 55, _, _, none⟩) (v := .agg EN) rfl (by kernel_rfl) (by kernel_rfl) (by kernel_rfl) (fun _ _ _ h => h) (yieldsIf_bld (by rfl) 55 _ rfl _ (by simp [Act.eval]) _ HEr.out) hHeld2 ?_
    simp only [Act.put, List.setIfInBounds_toArray, List.set_cons_zero, List.set_cons_succ]
    refine wpAnyH_ready (rs := [4]) (by kernel_rfl) (by simp) ?_
    refine AllReadyH.cons (o := ⟨none, Op.store 55 (Operand.tmp 2) (Operand.tmp 18), 0, _, _, none⟩) rfl (fun K hK => ?_) AllReadyH.nil
    rw [if_pos (by rfl)]
    refine wp_store_row 55 (.tmp 2) (.tmp 18) rfl w.heap.size EN rfl rfl 55 zEn (HE3.out.below HB7.out HE3.out.lt) (by rw [HEs.out]; exact Tryz.size55) (zEn_size.trans HEs.out.symm) HEo.out ?_
    refine hK.out _ _ (blk_range ((HN3.out.below HB7.out HN3.out.lt).setRow_ne (by have := B2.out.size; have := Hlt.out; have := BD.out.size; omega) _)) fun hH3 => ?_
    clear hK
    simp only [Act.put, List.setIfInBounds_toArray, List.set_cons_zero, List.set_cons_succ]
    refine wpAnyH_take (i := 5) (oi := ⟨some 3, Op.assign (Operand.const Value.nilIface), 29, _, _, none⟩) (v := .nilIface) rfl (by kernel_rfl) (by kernel_rfl) (by kernel_rfl) (fun _ _ _ h => h) (Or.inl ⟨by rfl, fun w hS => by go_simp⟩) hH3 ?_
    simp only [Act.put, List.setIfInBounds_toArray, List.set_cons_zero, List.set_cons_succ]
    refine wpAnyH_done (by kernel_rfl) ?_ _
    refine hK5 _ _ ?_
    refine wp_ret ?_
    try simp only [Exit.then]
    have HZ := (HE3.out.below HB7.out HE3.out.lt).setRow EN
    refine bodyPost_ret (v := .tuple #[.agg EN, .nilIface]) (results_cell_row2 Tryz.results13 _ _ w.heap.size 55 _ (0, 0) _ _ rfl rfl HZ Tryz.underlying55 rfl (by rw [HEs.out]; exact Tryz.size55)) rfl ?_
    have B7 : Below w.heap.size w w7 := B3.out.trans (HB7.out.mono B3.out.size)
    have Gs : Grown w7 (w7.setRow w.heap.size EN) fun k => k = w.heap.size := Grown.setRow w7 w.heap.size _ fun _ => rfl
    refine .inl ⟨H1.out, H2.out, .slice pa N.ps.length pc, .slice qa N.ops.length qc, by rw [HEe.out, ← HNN.out, Hhc.out], ?_, ?_, by rw [← HNN.out]; exact Hok.out, by rw [← HNN.out]; exact Hol.out, below_setRow B7 (Nat.le_refl _) _⟩
    · rw [← HNN.out]; exact (HO3.out.below HB7.out).grown Gs (fun k hk e => (HO3.out.below HB7.out).ne (HE3.out.below HB7.out HE3.out.lt) (by decide) (e ▸ hk))
    · rw [← HNN.out]; exact (HQ3.out.below HB7.out).grown Gs (fun k hk e => (HQ3.out.below HB7.out).ne (HE3.out.below HB7.out HE3.out.lt) (by decide) (e ▸ hk))
  · refine ⟨_, rfl, ?_⟩
    have H1 := Keep.mk h1
    have HB2 := Keep.mk hbad
    have BD := Keep.mk hb2
    have Hq := Keep.mk (Nat.le_trans Bx1.out hq)
    clear h1 hbad hb2 hq
    unfold err
    have HE2 := Keep.mk (HE1.out.below BD.out HE1.out.lt)
    have B2 : Keep (Below w.heap.size w w2) := ⟨B1.out.trans (BD.out.mono Bx1.out)⟩
    simp only [Act.put, List.setIfInBounds_toArray, List.set_cons_zero, List.set_cons_succ]
    refine WL.val (by kernel_rfl) (.tuple #[.agg (ndA 0 0 noS noS), .iface 121 (ptr q)]) (by go_simp) ?_
    simp only [Act.put, List.setIfInBounds_toArray, List.set_cons_zero, List.set_cons_succ]
    refine WL.val (by kernel_rfl) (.agg (ndA 0 0 noS noS)) (by go_simp) ?_
    simp only [Act.put, List.setIfInBounds_toArray, List.set_cons_zero, List.set_cons_succ]
    refine WL.val (by kernel_rfl) (.iface 121 (ptr q)) (by go_simp) ?_
    simp only [Act.put, List.setIfInBounds_toArray, List.set_cons_zero, List.set_cons_succ]
    refine WL.new (by kernel_rfl) 53 rfl _ Tryz.new53N ?_
    simp only [Act.put, List.setIfInBounds_toArray, List.set_cons_zero, List.set_cons_succ]
    refine WL.storeR (by kernel_rfl) 53 (.tmp 4) (.tmp 9) rfl w2.heap.size (ndA 0 0 noS noS) rfl rfl 53 (ndA 0 0 noS noS) (Blk.new w2 53 _) (Tryz.size53B _ _ _ _) rfl (nd_one 0 0 none 0 0 none 0 0) ?_
    have BS3 : Keep (Below w2.heap.size w2 ((w2.alloc (.cells (ndA 0 0 noS noS) 53)).setRow w2.heap.size (ndA 0 0 noS noS))) := ⟨below_setRow (below_new w2 _) (Nat.le_refl _) _⟩
    generalize (w2.alloc (.cells (ndA 0 0 noS noS) 53)).setRow w2.heap.size (ndA 0 0 noS noS) = w3 at *
    have B3 : Keep (Below w.heap.size w w3) := ⟨B2.out.trans (BS3.out.mono B2.out.size)⟩
    have HE3 := Keep.mk (HE2.out.below BS3.out HE2.out.lt)
    have HB3 : Keep (BadAt w3 q (badR l).1 (badR l).2) := ⟨HB2.out.below BS3.out HB2.out.lt⟩
    simp only [Act.put]
    refine WL.val (by kernel_rfl) (.iface 121 (ptr q)) (by go_simp) ?_
    simp only [Act.put, List.setIfInBounds_toArray, List.set_cons_zero, List.set_cons_succ]
    refine WL.nil ?_
    refine hK2 _ _ ?_
    refine wp_seq_k fun K6 hK6 => ?_
    refine wp_seq_k fun K7 hK7 => ?_
    refine wp_region_list (WL.out ?_)
    refine WL.val (by kernel_rfl) (.iface 121 (ptr q)) (by go_simp) ?_
    simp only [Act.put, List.setIfInBounds_toArray, List.set_cons_zero, List.set_cons_succ]
    refine WL.val (by kernel_rfl) (.bool true) (by go_simp) ?_
    simp only [Act.put, List.setIfInBounds_toArray, List.set_cons_zero, List.set_cons_succ]
    refine WL.nil ?_
    refine hK7 _ _ ?_
    refine wp_cond_true rfl ?_
    refine wp_seq_k fun K8 hK8 => ?_
    refine wp_region_list (WL.out ?_)
    refine WL.bld (by kernel_rfl) 55 _ rfl [] (by simp) _ en_built0 ?_
    simp only [Act.put, List.setIfInBounds_toArray, List.set_cons_zero, List.set_cons_succ]
    refine WL.val (by kernel_rfl) (.iface 121 (ptr q)) (by go_simp) ?_
    simp only [Act.put, List.setIfInBounds_toArray, List.set_cons_zero, List.set_cons_succ]
    refine WL.storeR (by kernel_rfl) 55 (.tmp 2) (.tmp 13) rfl w.heap.size zEn rfl rfl 55 zEn HE3.out (Tryz.size55B _ _ _ _ _) rfl (enA_one _ 0 0 none 0 0 none 0 0) ?_
    simp only [Act.put]
    refine WL.val (by kernel_rfl) (.iface 121 (ptr q)) (by go_simp) ?_
    simp only [Act.put, List.setIfInBounds_toArray, List.set_cons_zero, List.set_cons_succ]
    refine WL.nil ?_
    refine hK8 _ _ ?_
    refine wp_ret ?_
    try simp only [Exit.then]
    refine bodyPost_ret (v := .tuple #[.agg zEn, .iface 121 (ptr q)]) (results_cell_row2 Tryz.results13 _ _ w.heap.size 55 _ (0, 0) _ _ rfl rfl (HE3.out.setRow _) Tryz.underlying55 rfl (Tryz.size55B _ _ _ _ _)) rfl ?_
    exact .inr ⟨H1.out, q, Hq.out, rfl, HB3.out.setRow_ne (blk_ne HB3.out HE3.out (by decide)) _, below_setRow B3.out (Nat.le_refl _) _⟩
end Go.Proofs.YtdkhjeofjhcceaaGreatDoor.Nd
namespace Go.Proofs.YtdkhjeofjhcceaaGreatDoor
open Go.RowKit
set_option linter.unusedSimpArgs false
set_option linter.unusedVariables false
theorem Tryz.in5 (w : World) (vs : Array Value) : (callFunc 5 vs).run Tryz.prog w = .ok (.enter 5 vs) w := by kernel_rfl
theorem Tryz.in9 (w : World) (vs : Array Value) : (callFunc 9 vs).run Tryz.prog w = .ok (.enter 9 vs) w := by kernel_rfl
theorem Tryz.in15 (w : World) (vs : Array Value) : (callFunc 15 vs).run Tryz.prog w = .ok (.enter 15 vs) w := by kernel_rfl
theorem Tryz.in12 (w : World) (vs : Array Value) : (callFunc 12 vs).run Tryz.prog w = .ok (.enter 12 vs) w := by kernel_rfl
theorem layUp_rng (s : Nat → Int) : ∀ t i, 0 ≤ Nd.Sh.layUp s t i ∧ Nd.Sh.layUp s t i < 256
  | 0, i => by simp [Nd.Sh.layUp]
  | t + 1, i => by
    have ih := layUp_rng s t i
    simp only [Nd.Sh.layUp, Nd.Sh.upd]
    repeat' split
    all_goals first | exact ih | omega
def shaH (l : List Int) : Hs := Vector.ofFn fun i : Fin 32 => UInt8.ofNat (Nd.Sh.shaP l i.val).toNat
theorem shaH_f (l : List Int) (i : Nat) (hi : i < 32) : (shaH l).f i = Nd.Sh.shaP l i := by
  have h : 0 ≤ Nd.Sh.shaP l i ∧ Nd.Sh.shaP l i < 256 := layUp_rng _ 8 i
  rw [Hs.f_get _ _ hi]
  simp only [shaH, Vector.getElem_ofFn]
  rw [UInt8.toNat_ofNat']
  omega
theorem shaH_b (l : List Int) : bytesA 32 (Nd.Sh.shaP l) = bytesA 32 (shaH l).f := by
  unfold bytesA
  congr 1
  funext i
  rw [shaH_f l i.val i.isLt]
theorem Tryz.mkm46 (w : World) : (Instr.makeMap 45 none).run Tryz.prog w = .ok (.map (some w.heap.size)) (w.alloc (.map #[] 0)) := rfl
structure ShAt (w : World) (s d mb : Nat) (g : DG) (Av : Nat → Prop) : Prop where
  bl : Blk w s 47 #[.iface 40 (.agg #[]), ptr d, .map (some mb), .bool false]
  mp : ∃ es ck, w.heap[mb]? = some (.map es ck)
  dg : DagAt w Av d g
  ns : ¬ DgS d g s ∧ ¬ DgS d g mb ∧ s ≠ mb
  av : Av s ∧ Av mb
theorem ShAt.below {w w' : World} {s d mb : Nat} {g : DG} {Av : Nat → Prop} (h : ShAt w s d mb g Av) (hb : Below w.heap.size w w') : ShAt w' s d mb g Av := by
  obtain ⟨es, ck, hm⟩ := h.mp
  exact ⟨h.bl.below hb h.bl.lt, ⟨es, ck, by rw [hb.block mb (Array.getElem?_eq_some_iff.1 hm).1]; exact hm⟩, h.dg.below hb, h.ns, h.av⟩
theorem mp_empty {w : World} {Av Av' : Nat → Prop} {b : Nat} (h : MpAt w Av b []) : MpAt w Av' b [] := by
  obtain ⟨es, ck, h1, h2⟩ := h
  refine ⟨es, ck, h1, ?_⟩
  have h3 := h2.len
  generalize es.toList = l at *
  match l, h3 with
  | [], _ => trivial
theorem bldSh (d mb : Nat) : Tryz.prog.built 47 [(0, .iface 40 (.agg #[])), (1, ptr d), (2, .map (some mb))] = some #[.iface 40 (.agg #[]), ptr d, .map (some mb), .bool false] := by kernel_rfl
set_option maxRecDepth 8000 in
theorem new_shelf (w : World) : Calls Tryz.prog 5 #[.nilIface] w fun e w' => ∃ s d mb g Av, e = .returned (ptr s) ∧ ShAt w' s d mb g Av ∧ w'.heap[mb]? = some (.map #[] 0) ∧ g.held = [] ∧ g.wait = [] ∧ g.heads = [] ∧ g.order = [] ∧ g.queue = [] ∧ (∀ k, k = s ∨ k = mb ∨ DgS d g k → w.heap.size ≤ k) ∧ Below w.heap.size w w' := by
  go_enter Tryz.func5, Tryz.ntmps5
  refine wp_seq_k fun K1 hK1 => ?_
  refine wp_region_list (WL.out ?_)
  refine WL.val (by kernel_rfl) (.pointer none) (by go_simp) ?_
  simp only [Act.put, List.setIfInBounds_toArray, List.set_cons_zero, List.set_cons_succ]
  refine WL.nil ?_
  refine hK1 _ _ ?_
  refine wp_seq_k fun K2 hK2 => ?_
  refine wp_seq_k fun K3 hK3 => ?_
  refine wp_region_list (WL.out ?_)
  refine WL.val (by kernel_rfl) (.nilIface) (by go_simp) ?_
  simp only [Act.put, List.setIfInBounds_toArray, List.set_cons_zero, List.set_cons_succ]
  refine WL.val (by kernel_rfl) (.bool true) (by go_simp) ?_
  simp only [Act.put, List.setIfInBounds_toArray, List.set_cons_zero, List.set_cons_succ]
  refine WL.nil ?_
  refine hK3 _ _ ?_
  refine wp_cond_true rfl ?_
  refine wp_region_list (WL.out ?_)
  refine WL.bld (by kernel_rfl) 40 _ rfl [] (by simp) #[] (by kernel_rfl) ?_
  simp only [Act.put, List.setIfInBounds_toArray, List.set_cons_zero, List.set_cons_succ]
  refine WL.val (by kernel_rfl) (.iface 40 (.agg #[])) (by go_simp) ?_
  simp only [Act.put, List.setIfInBounds_toArray, List.set_cons_zero, List.set_cons_succ]
  refine WL.val (by kernel_rfl) (.iface 40 (.agg #[])) (by go_simp) ?_
  simp only [Act.put, List.setIfInBounds_toArray, List.set_cons_zero, List.set_cons_succ]
  refine WL.nil ?_
  refine hK2 _ _ ?_
  refine wp_seq_k fun K4 hK4 => ?_
  refine wp_region_list (WL.out ?_)
  refine WL.callF (by kernel_rfl) 9 _ _ rfl Tryz.in9 #[.int .i64 64] (by simp [Act.eval]) ?_
  refine (show Calls Tryz.prog 9 #[.int .i64 64] w _ from new_any 64 w).mono ?_
  rintro e w1 (⟨h1, _⟩ | ⟨_, d, g, rfl, hd, hr, h1, h2, h3, h4, h5, hb, hf⟩)
  · omega
  refine ⟨_, rfl, ?_⟩
  have HD := Keep.mk hd
  have HG := Keep.mk (And.intro h1 (And.intro h2 (And.intro h3 (And.intro h4 (And.intro h5 hr)))))
  have B1 := Keep.mk hb
  have HF := Keep.mk hf
  clear hd h1 h2 h3 h4 h5 hr hb hf
  simp only [Act.put, List.setIfInBounds_toArray, List.set_cons_zero, List.set_cons_succ]
  refine WL.val (by kernel_rfl) (.tuple #[.pointer (some ⟨d, 0, none⟩), .int .i64 0]) (by go_simp) ?_
  simp only [Act.put, List.setIfInBounds_toArray, List.set_cons_zero, List.set_cons_succ]
  refine WL.val (by kernel_rfl) (.pointer (some ⟨d, 0, none⟩)) (by go_simp) ?_
  simp only [Act.put, List.setIfInBounds_toArray, List.set_cons_zero, List.set_cons_succ]
  refine WL.val (by kernel_rfl) (.int .i64 0) (by go_simp) ?_
  simp only [Act.put, List.setIfInBounds_toArray, List.set_cons_zero, List.set_cons_succ]
  refine WL.val (by kernel_rfl) (.pointer (some ⟨d, 0, none⟩)) (by go_simp) ?_
  simp only [Act.put, List.setIfInBounds_toArray, List.set_cons_zero, List.set_cons_succ]
  refine WL.val (by kernel_rfl) (.int .i64 0) (by go_simp) ?_
  simp only [Act.put, List.setIfInBounds_toArray, List.set_cons_zero, List.set_cons_succ]
  refine WL.nil ?_
  refine hK4 _ _ ?_
  refine wp_seq_k fun K5 hK5 => ?_
  refine wp_region_list (WL.out ?_)
  refine WL.val (by kernel_rfl) (.iface 40 (.agg #[])) (by go_simp) ?_
  simp only [Act.put, List.setIfInBounds_toArray, List.set_cons_zero, List.set_cons_succ]
  refine WL.val (by kernel_rfl) (.pointer (some ⟨d, 0, none⟩)) (by go_simp) ?_
  simp only [Act.put, List.setIfInBounds_toArray, List.set_cons_zero, List.set_cons_succ]
  have hmk := Tryz.mkm46 w1
  refine WL.valW (by kernel_rfl) (.map (some w1.heap.size)) (w1.alloc (.map #[] 0)) (by go_simp) ?_
  have HM : Keep ((w1.alloc (.map #[] 0)).heap[w1.heap.size]? = some (.map #[] 0)) := ⟨heap_alloc_new w1 _⟩
  clear hmk
  have B2 : Keep (Below w1.heap.size w1 (w1.alloc (.map #[] 0))) := ⟨below_new _ _⟩
  generalize w1.alloc (.map #[] 0) = w2 at *
  obtain ⟨mb, hmb⟩ : ∃ z, Keep (z = w1.heap.size) := ⟨_, ⟨rfl⟩⟩
  rw [← hmb.out] at HM ⊢
  simp only [Act.put, List.setIfInBounds_toArray, List.set_cons_zero, List.set_cons_succ]
  refine WL.bld (by kernel_rfl) 47 _ rfl [(0, .iface 40 (.agg #[])), (1, ptr d), (2, .map (some mb))] (by simp [Act.eval]) #[.iface 40 (.agg #[]), ptr d, .map (some mb), .bool false] (bldSh d mb) ?_
  simp only [Act.put, List.setIfInBounds_toArray, List.set_cons_zero, List.set_cons_succ]
  refine WL.box (by kernel_rfl) 47 (.tmp 16) rfl #[.iface 40 (.agg #[]), ptr d, .map (some mb), .bool false] rfl ?_
  have HS := Keep.mk (Blk.new w2 47 #[.iface 40 (.agg #[]), ptr d, .map (some mb), .bool false])
  have b_s := Keep.mk (below_new w2 (.cells #[.iface 40 (.agg #[]), ptr d, .map (some mb), .bool false] 47))
  change WL _ _ _ _ _ (w2.alloc (.cells #[.iface 40 (.agg #[]), ptr d, .map (some mb), .bool false] 47))
  generalize w2.alloc (.cells #[.iface 40 (.agg #[]), ptr d, .map (some mb), .bool false] 47) = w3 at *
  obtain ⟨s, hs⟩ : ∃ z, Keep (z = w2.heap.size) := ⟨_, ⟨rfl⟩⟩
  rw [← hs.out] at HS ⊢
  simp only [Act.put, List.setIfInBounds_toArray, List.set_cons_zero, List.set_cons_succ]
  refine WL.val (by kernel_rfl) (.pointer (some ⟨s, 0, none⟩)) (by go_simp) ?_
  simp only [Act.put, List.setIfInBounds_toArray, List.set_cons_zero, List.set_cons_succ]
  refine WL.nil ?_
  refine hK5 _ _ ?_
  refine wp_ret ?_
  go_ret
  have hml : mb < w2.heap.size := (Array.getElem?_eq_some_iff.1 HM.out).1
  have hdl : ∀ k, DgS d g k → k < w1.heap.size := HD.out.lt
  have h1 := hmb.out
  have h2 := hs.out
  have h3 := B2.out.size
  have B13 : Below w1.heap.size w1 w3 := B2.out.trans (b_s.out.mono h3)
  have HD3 := HD.out.below B13
  have hml3 : w3.heap[mb]? = some (.map #[] 0) := by rw [b_s.out.block mb hml]; exact HM.out
  have nds : ¬ DgS d g s := fun e => by have := hdl s e; omega
  have ndm : ¬ DgS d g mb := fun e => by have := hdl mb e; omega
  have sz := HS.out.lt
  refine ⟨s, d, mb, g, fun k => DgS d g k ∨ k = s ∨ k = mb, rfl, ⟨HS.out, ⟨_, _, hml3⟩, ⟨HD3.blk, ?_, ?_, HD3.oh, HD3.oo, HD3.oq, HD3.mm, HD3.ho, HD3.hq, HD3.oq', fun k e => .inl e, fun k e => ?_⟩, ⟨nds, ndm, by omega⟩, .inr (.inl rfl), .inr (.inr rfl)⟩, hml3, HG.out.1, HG.out.2.1, HG.out.2.2.1, HG.out.2.2.2.1, HG.out.2.2.2.2.1, ?_, ?_⟩
  · have h := HD3.held
    rw [HG.out.1] at h ⊢
    exact mp_empty h
  · have h := HD3.wait
    rw [HG.out.2.1] at h ⊢
    exact mp_empty h
  · rcases e with e | e | e
    · exact HD3.lt k e
    · omega
    · omega
  · intro k hk
    rcases hk with e | e | e
    · have := B1.out.size; omega
    · have := B1.out.size; omega
    · exact HF.out k e
  · exact B1.out.trans (B13.mono B1.out.size)

section
variable {P : Program} {ops : Array Oper} {rest : List Oper} {o : Oper} {a : Act} {w : World} {Q : Exit → Act → World → Prop}
theorem WL.callP (hw : Region.wanted o (yielded ops a.tmps) = true) (f : FuncId) (args : Array Operand) (ts : Array TypeId) (ho : o.op = .call { callee := .value (.func f), args := args, argTypes := ts })
    (hf : ∀ (w : World) (vs : Array Value), (callFunc f vs).run P w = .ok (.enter f vs) w) (vs : Array Value) (hvs : args.map a.eval = vs)
    (hc : Calls P f vs w fun e w' => (∃ v, e = .returned v ∧ WL P ops Q rest (a.put o.dst v) w') ∨ (∃ ch, e = .panicked ch ∧ Q (.panic ch) a w')) : WL P ops Q (o :: rest) a w :=
  ⟨wpList_wanted hw fun K hK => by
    unfold Oper.wp
    rw [run_callF a o f args ts ho hf w, Oper.upon_enter, hvs]
    refine hc.mono ?_
    rintro e w' (⟨v, rfl, hr⟩ | ⟨ch, rfl, hr⟩)
    · exact hK _ _ hr.out
    · exact hr⟩
theorem WL.panic (hw : Region.wanted o (yielded ops a.tmps) = true) (x : Operand) (ho : o.op = .panic x) (t : TypeId) (v : Value) (hx : a.eval x = .iface t v)
    (h : Q (.panic [{ v := .iface t v, recovered := false }]) a w) : WL P ops Q (o :: rest) a w :=
  ⟨wpList_wanted hw fun K hK => by
    unfold Oper.wp execOp
    simp only [ho, hx, Sem.run_bind, run_panic_iface]
    exact h⟩
end
section
variable {P : Program} {ops : Array Oper} {rest : List Oper} {o : Oper} {a : Act} {w : World} {Q : Exit → Act → World → Prop}
theorem WL.defer (hw : Region.wanted o (yielded ops a.tmps) = true) (d : Deferred) (hrun : (execOp a.eval o).run P w = .ok (.defer d) w)
    (h : WL P ops Q rest ({ a with defers := d :: a.defers }.put o.dst undef) w) : WL P ops Q (o :: rest) a w :=
  ⟨wpList_wanted hw fun _ hK => by unfold Oper.wp; rw [hrun, Oper.upon_defer]; exact hK _ _ h.out⟩
end
set_option maxRecDepth 8000 in
set_option maxHeartbeats 1000000 in
theorem must12_ok (ee : Array Value) (w : World) (h1 : (Tryz.prog.info? 55).map (·.size) = some ee.size) (h2 : ee.all (·.oneCell') = true) (h3 : ee.size = 36) : Calls Tryz.prog 12 #[.agg ee, .nilIface] w fun e w' => e = .returned (.agg ee) ∧ Below w.heap.size w w' := by
  go_enter Tryz.func12, Tryz.ntmps12
  refine wp_seq_k fun K1 hK1 => ?_
  refine wp_region_list (WL.out ?_)
  refine WL.box (by kernel_rfl) 55 (.tmp 0) rfl ee rfl ?_
  have H2 := Keep.mk (Blk.new w 55 ee)
  have b_b2 := Keep.mk (below_new w (.cells ee 55))
  change WL _ _ _ _ _ (w.alloc (.cells ee 55))
  generalize w.alloc (.cells ee 55) = w1 at *
  obtain ⟨b2, hb2⟩ : ∃ z, Keep (z = w.heap.size) := ⟨_, ⟨rfl⟩⟩
  rw [← hb2.out] at H2 ⊢
  simp only [Act.put, List.setIfInBounds_toArray, List.set_cons_zero, List.set_cons_succ]
  refine WL.new (by kernel_rfl) 55 rfl _ Nd.Tryz.new55 ?_
  have H4 := Keep.mk (Blk.new w1 55 Nd.zEn)
  have b_b4 := Keep.mk (below_new w1 (.cells Nd.zEn 55))
  generalize w1.alloc (.cells Nd.zEn 55) = w2 at *
  obtain ⟨b4, hb4⟩ : ∃ z, Keep (z = w1.heap.size) := ⟨_, ⟨rfl⟩⟩
  rw [← hb4.out] at H4 ⊢
  simp only [Act.put, List.setIfInBounds_toArray, List.set_cons_zero, List.set_cons_succ]
  refine WL.nil ?_
  refine hK1 _ _ ?_
  refine wp_seq_k fun K2 hK2 => ?_
  refine wp_seq_k fun K3 hK3 => ?_
  refine wp_region_list (WL.out ?_)
  refine WL.val (by kernel_rfl) (.nilIface) (by go_simp) ?_
  simp only [Act.put, List.setIfInBounds_toArray, List.set_cons_zero, List.set_cons_succ]
  refine WL.val (by kernel_rfl) (.bool false) (by go_simp) ?_
  simp only [Act.put, List.setIfInBounds_toArray, List.set_cons_zero, List.set_cons_succ]
  refine WL.nil ?_
  refine hK3 _ _ ?_
  refine wp_cond_false rfl ?_
  refine wp_skip ?_
  refine hK2 _ _ ?_
  refine wp_seq_k fun K4 hK4 => ?_
  refine wp_region_list (WL.out ?_)
  refine WL.row (by kernel_rfl) 55 (.tmp 2) rfl b2 rfl 55 ee _ (H2.out.below b_b4.out H2.out.lt) Tryz.underlying55 rfl h1 ?_
  simp only [Act.put, List.setIfInBounds_toArray, List.set_cons_zero, List.set_cons_succ]
  refine WL.storeR (by kernel_rfl) 55 (.tmp 4) (.tmp 9) rfl b4 ee rfl rfl 55 Nd.zEn H4.out h1 (by rw [h3, Nd.zEn_size]) h2 ?_
  have H5 := Keep.mk (H4.out.setRow ee)
  have g_w3 : Keep (Grown w2 (w2.setRow b4 ee) fun k => k = b4) := ⟨Grown.setRow w2 b4 _ fun _ => rfl⟩
  clear H4
  generalize w2.setRow b4 ee = w3 at *
  simp only [Act.put]
  refine WL.nil ?_
  refine hK4 _ _ ?_
  refine wp_ret ?_
  have k1 := hb4.out
  have k2 := b_b2.out.size
  exact bodyPost_ret (v := .agg ee) (results_cell_row Tryz.results12 _ _ b4 55 _ (0, 0) _ rfl H5.out Tryz.underlying55 rfl h1) rfl ⟨rfl, b_b2.out.trans ((b_b4.out.mono b_b2.out.size).trans (g_w3.out.to_below (fun k hk e => by omega) (Nat.le_trans b_b2.out.size b_b4.out.size)))⟩
set_option maxRecDepth 8000 in
set_option maxHeartbeats 1000000 in
theorem must12_bad (ee : Array Value) (q : Nat) (w : World) (h1 : (Tryz.prog.info? 55).map (·.size) = some ee.size) (h2 : ee.all (·.oneCell') = true) (h3 : ee.size = 36) : Calls Tryz.prog 12 #[.agg ee, .iface 121 (ptr q)] w fun e w' => e = .panicked [Nd.wr q] ∧ Below w.heap.size w w' := by
  go_enter Tryz.func12, Tryz.ntmps12
  refine wp_seq_k fun K1 hK1 => ?_
  refine wp_region_list (WL.out ?_)
  refine WL.box (by kernel_rfl) 55 (.tmp 0) rfl ee rfl ?_
  have H2 := Keep.mk (Blk.new w 55 ee)
  have b_b2 := Keep.mk (below_new w (.cells ee 55))
  change WL _ _ _ _ _ (w.alloc (.cells ee 55))
  generalize w.alloc (.cells ee 55) = w1 at *
  obtain ⟨b2, hb2⟩ : ∃ z, Keep (z = w.heap.size) := ⟨_, ⟨rfl⟩⟩
  rw [← hb2.out] at H2 ⊢
  simp only [Act.put, List.setIfInBounds_toArray, List.set_cons_zero, List.set_cons_succ]
  refine WL.new (by kernel_rfl) 55 rfl _ Nd.Tryz.new55 ?_
  have H4 := Keep.mk (Blk.new w1 55 Nd.zEn)
  have b_b4 := Keep.mk (below_new w1 (.cells Nd.zEn 55))
  generalize w1.alloc (.cells Nd.zEn 55) = w2 at *
  obtain ⟨b4, hb4⟩ : ∃ z, Keep (z = w1.heap.size) := ⟨_, ⟨rfl⟩⟩
  rw [← hb4.out] at H4 ⊢
  simp only [Act.put, List.setIfInBounds_toArray, List.set_cons_zero, List.set_cons_succ]
  refine WL.nil ?_
  refine hK1 _ _ ?_
  refine wp_seq_k fun K2 hK2 => ?_
  refine wp_seq_k fun K3 hK3 => ?_
  refine wp_region_list (WL.out ?_)
  refine WL.val (by kernel_rfl) (.iface 121 (ptr q)) (by go_simp) ?_
  simp only [Act.put, List.setIfInBounds_toArray, List.set_cons_zero, List.set_cons_succ]
  refine WL.val (by kernel_rfl) (.bool true) (by go_simp) ?_
  simp only [Act.put, List.setIfInBounds_toArray, List.set_cons_zero, List.set_cons_succ]
  refine WL.nil ?_
  refine hK3 _ _ ?_
  refine wp_cond_true rfl ?_
  refine wp_region_list (WL.out ?_)
  refine WL.val (by kernel_rfl) (.iface 121 (ptr q)) (by go_simp) ?_
  simp only [Act.put, List.setIfInBounds_toArray, List.set_cons_zero, List.set_cons_succ]
  refine WL.callP (by kernel_rfl) 29 _ _ rfl Nd.Tryz.in29 #[Nd.err q] (by simp [Act.eval, Nd.err]) ?_
  refine (Nd.giveUp_any q w2).mono ?_
  rintro e w' ⟨rfl, rfl⟩
  refine .inr ⟨_, rfl, ?_⟩
  try simp only [Exit.inBlock, Exit.then]
  refine ⟨rfl, ?_⟩
  exact ⟨rfl, b_b2.out.trans (b_b4.out.mono b_b2.out.size)⟩
theorem Tryz.new61v (w : World) : (Instr.alloc 61 true (.tuple #[])).run Tryz.prog w = .ok (.pointer (some ⟨w.heap.size, 0, none⟩)) (w.alloc (.cells (vtx (fun _ => 0) 0 (.slice none 0 0)) 61)) := by kernel_rfl
theorem sizeV62 (c : Nat → Int) (k : Int) (p : Value) : (Tryz.prog.info? 61).map (·.size) = some (vtx c k p).size := by rw [vtx_size]; kernel_rfl
theorem size51E (c : Nat → Int) : (Tryz.prog.info? 50).map (·.size) = some (bytesA 32 c).size := by rw [bytesA_size]; kernel_rfl
def enE (c : Nat → Int) (au ck : Int) (p q : Value) : Array Value := Nd.enA c (Nd.ndA au ck p q)
theorem enE_list (c : Nat → Int) (au ck : Int) (p q : Value) : (enE c au ck p q).toList = (bytesA 32 c).toList ++ [.int .i64 au, .int .i64 ck, p, q] := by
  simp [enE, Nd.enA, Nd.enL, Nd.ndA]
  rfl
theorem ent33 (c : Nat → Int) (au ck : Int) (p q : Value) : (enE c au ck p q)[33]? = some (.int .i64 ck) := by
  rw [← Array.getElem?_toList, enE_list, List.getElem?_append_right (by rw [Array.length_toList, bytesA_size]; omega), Array.length_toList, bytesA_size]; rfl
theorem ent34 (c : Nat → Int) (au ck : Int) (p q : Value) : (enE c au ck p q)[34]? = some p := by
  rw [← Array.getElem?_toList, enE_list, List.getElem?_append_right (by rw [Array.length_toList, bytesA_size]; omega), Array.length_toList, bytesA_size]; rfl
theorem ent_id {w : World} {b : Nat} {c : Nat → Int} {au ck : Int} {p q : Value} (h : w.rangeAt b 0 (enE c au ck p q).toList) : w.rangeAt b 0 (bytesA 32 c).toList := fun j v hv => h j v (by
  rw [enE_list, List.getElem?_append_left (by have := (List.getElem?_eq_some_iff.1 hv).1; exact this)]; exact hv)
set_option maxRecDepth 8000 in
set_option maxHeartbeats 1000000 in
theorem vertex0 (c : Nat → Int) (au ck : Int) (pa : Option Addr) (pc : Nat) (q : Value) (ee : Array Value) (hee : Keep (ee = enE c au ck (.slice pa 0 pc) q)) (w : World) : Calls Tryz.prog 15 #[.agg ee] w fun e w' => ∃ bp, e = .returned (.agg (vtx c ck (.slice (some ⟨bp, 0, none⟩) 0 0))) ∧ w.heap.size ≤ bp ∧ Below w.heap.size w w' := by
  go_enter Tryz.func15, Tryz.ntmps15
  refine wp_seq_k fun K1 hK1 => ?_
  refine wp_region_list (WL.out ?_)
  refine WL.box (by kernel_rfl) 55 (.tmp 0) rfl ee rfl ?_
  have H1 := Keep.mk (Blk.new w 55 ee)
  have b_b1 := Keep.mk (below_new w (.cells ee 55))
  change WL _ _ _ _ _ (w.alloc (.cells ee 55))
  generalize w.alloc (.cells ee 55) = w1 at *
  obtain ⟨b1, hb1⟩ : ∃ z, Keep (z = w.heap.size) := ⟨_, ⟨rfl⟩⟩
  rw [← hb1.out] at H1 ⊢
  simp only [Act.put, List.setIfInBounds_toArray, List.set_cons_zero, List.set_cons_succ]
  refine WL.new (by kernel_rfl) 61 rfl _ Tryz.new61v ?_
  have HZ := Keep.mk (Blk.new w1 61 (vtx (fun _ => 0) 0 (.slice none 0 0)))
  have b_b2 := Keep.mk (below_new w1 (.cells (vtx (fun _ => 0) 0 (.slice none 0 0)) 61))
  generalize w1.alloc (.cells (vtx (fun _ => 0) 0 (.slice none 0 0)) 61) = w2 at *
  obtain ⟨b2, hb2⟩ : ∃ z, Keep (z = w1.heap.size) := ⟨_, ⟨rfl⟩⟩
  rw [← hb2.out] at HZ ⊢
  have HX := Keep.mk (H1.out.below b_b2.out H1.out.lt)
  have c34 : w2.cell? ⟨b1, 34, none⟩ = some (.slice pa 0 pc) := HX.out.c 34 (by rw [hee.out]; exact ent34 _ _ _ _ _)
  have c33 : w2.cell? ⟨b1, 33, none⟩ = some (.int .i64 ck) := HX.out.c 33 (by rw [hee.out]; exact ent33 _ _ _ _ _)
  simp only [Act.put, List.setIfInBounds_toArray, List.set_cons_zero, List.set_cons_succ]
  refine WL.nil ?_
  refine hK1 _ _ ?_
  refine wp_seq_k fun K2 hK2 => ?_
  refine wp_region_list (WL.out ?_)
  refine WL.val (by kernel_rfl) (.pointer (some ⟨b1, 32, none⟩)) (by go_simp) ?_
  simp only [Act.put, List.setIfInBounds_toArray, List.set_cons_zero, List.set_cons_succ]
  refine WL.val (by kernel_rfl) (.pointer (some ⟨b1, 34, none⟩)) (by go_simp) ?_
  simp only [Act.put, List.setIfInBounds_toArray, List.set_cons_zero, List.set_cons_succ]
  refine WL.val (by kernel_rfl) (.slice pa 0 pc) (by go_simp) ?_
  simp only [Act.put, List.setIfInBounds_toArray, List.set_cons_zero, List.set_cons_succ]
  refine WL.val (by kernel_rfl) (.int .i64 0) (by go_simp) ?_
  simp only [Act.put, List.setIfInBounds_toArray, List.set_cons_zero, List.set_cons_succ]
  refine WL.valW (by kernel_rfl) (.slice (some ⟨w2.heap.size, 0, none⟩) 0 0) (w2.alloc (.cells #[] 50)) (by kernel_rfl) ?_
  have b_p := Keep.mk (below_new w2 (.cells #[] 50))
  have HZ3 := Keep.mk (HZ.out.below b_p.out HZ.out.lt)
  have HX3 := Keep.mk (HX.out.below b_p.out HX.out.lt)
  have HP3 := Keep.mk (Blk.new w2 50 #[])
  clear c33 c34
  generalize w2.alloc (.cells #[] 50) = w3 at *
  obtain ⟨bp, hbp⟩ : ∃ z, Keep (z = w2.heap.size) := ⟨_, ⟨rfl⟩⟩
  rw [← hbp.out] at HP3 ⊢
  have c34 : w3.cell? ⟨b1, 34, none⟩ = some (.slice pa 0 pc) := HX3.out.c 34 (by rw [hee.out]; exact ent34 _ _ _ _ _)
  have c33 : w3.cell? ⟨b1, 33, none⟩ = some (.int .i64 ck) := HX3.out.c 33 (by rw [hee.out]; exact ent33 _ _ _ _ _)
  simp only [Act.put, List.setIfInBounds_toArray, List.set_cons_zero, List.set_cons_succ]
  refine WL.val (by kernel_rfl) (.slice (some ⟨bp, 0, none⟩) 0 0) (by go_simp) ?_
  simp only [Act.put, List.setIfInBounds_toArray, List.set_cons_zero, List.set_cons_succ]
  refine WL.nil ?_
  refine hK2 _ _ ?_
  refine wp_seq_k fun K3 hK3 => ?_
  refine wp_region_list (WL.out ?_)
  refine WL.val (by kernel_rfl) (.slice (some ⟨bp, 0, none⟩) 0 0) (by go_simp) ?_
  simp only [Act.put, List.setIfInBounds_toArray, List.set_cons_zero, List.set_cons_succ]
  refine WL.val (by kernel_rfl) (.pointer (some ⟨b1, 32, none⟩)) (by go_simp) ?_
  simp only [Act.put, List.setIfInBounds_toArray, List.set_cons_zero, List.set_cons_succ]
  refine WL.val (by kernel_rfl) (.pointer (some ⟨b1, 34, none⟩)) (by go_simp) ?_
  simp only [Act.put, List.setIfInBounds_toArray, List.set_cons_zero, List.set_cons_succ]
  refine WL.val (by kernel_rfl) (.slice pa 0 pc) (by go_simp) ?_
  simp only [Act.put, List.setIfInBounds_toArray, List.set_cons_zero, List.set_cons_succ]
  refine WL.valW (by kernel_rfl) (.int .i64 0) w3 (by cases pa <;> kernel_rfl) ?_
  simp only [Act.put, List.setIfInBounds_toArray, List.set_cons_zero, List.set_cons_succ]
  refine WL.nil ?_
  refine hK3 _ _ ?_
  refine wp_seq_k fun K4 hK4 => ?_
  refine wp_region_list (WL.out ?_)
  refine WL.val (by kernel_rfl) (.pointer (some ⟨b1, 0, none⟩)) (by go_simp) ?_
  simp only [Act.put, List.setIfInBounds_toArray, List.set_cons_zero, List.set_cons_succ]
  refine WL.midA (by kernel_rfl) 50 (.tmp 14) rfl b1 0 rfl (bytesA 32 c) _ (by have h := blk_range HX3.out; rw [hee.out] at h; exact ent_id h) Tryz.underlying50 rfl (size51E _) ?_
  simp only [Act.put, List.setIfInBounds_toArray, List.set_cons_zero, List.set_cons_succ]
  refine WL.val (by kernel_rfl) (.pointer (some ⟨b1, 32, none⟩)) (by go_simp) ?_
  simp only [Act.put, List.setIfInBounds_toArray, List.set_cons_zero, List.set_cons_succ]
  refine WL.val (by kernel_rfl) (.pointer (some ⟨b1, 33, none⟩)) (by go_simp) ?_
  simp only [Act.put, List.setIfInBounds_toArray, List.set_cons_zero, List.set_cons_succ]
  refine WL.val (by kernel_rfl) (.int .i64 ck) (by go_simp) ?_
  simp only [Act.put, List.setIfInBounds_toArray, List.set_cons_zero, List.set_cons_succ]
  refine WL.val (by kernel_rfl) (.slice (some ⟨bp, 0, none⟩) 0 0) (by go_simp) ?_
  simp only [Act.put, List.setIfInBounds_toArray, List.set_cons_zero, List.set_cons_succ]
  refine WL.bld (by kernel_rfl) 61 _ rfl [(0, .agg (bytesA 32 c)), (1, .int .i64 ck), (2, .slice (some ⟨bp, 0, none⟩) 0 0)] (by simp [Act.eval]) (vtx c ck (.slice (some ⟨bp, 0, none⟩) 0 0)) (by kernel_rfl) ?_
  simp only [Act.put, List.setIfInBounds_toArray, List.set_cons_zero, List.set_cons_succ]
  refine WL.storeR (by kernel_rfl) 61 (.tmp 2) (.tmp 20) rfl b2 (vtx c ck (.slice (some ⟨bp, 0, none⟩) 0 0)) rfl rfl 61 (vtx (fun _ => 0) 0 (.slice none 0 0)) HZ3.out (sizeV62 _ _ _) (by rw [vtx_size, vtx_size]) (vtx_one _ _ _ (slice_one _ _ _)) ?_
  have HZ4 := Keep.mk (HZ3.out.setRow (vtx c ck (.slice (some ⟨bp, 0, none⟩) 0 0)))
  have g_w4 : Keep (Grown w3 (w3.setRow b2 (vtx c ck (.slice (some ⟨bp, 0, none⟩) 0 0))) fun k => k = b2) := ⟨Grown.setRow w3 b2 _ fun _ => rfl⟩
  clear HZ3
  generalize w3.setRow b2 (vtx c ck (.slice (some ⟨bp, 0, none⟩) 0 0)) = w4 at *
  clear c33 c34
  simp only [Act.put]
  refine WL.nil ?_
  refine hK4 _ _ ?_
  refine wp_ret ?_
  have k1 := hb2.out
  have k2 := b_b1.out.size
  have k3 := b_b2.out.size
  have k4 := b_p.out.size
  have k5 := hbp.out
  refine bodyPost_ret (v := .agg (vtx c ck (.slice (some ⟨bp, 0, none⟩) 0 0))) (results_cell_row Tryz.results15 _ _ b2 61 _ (0, 0) _ rfl HZ4.out Tryz.underlying61 rfl (sizeV62 _ _ _)) rfl ⟨bp, rfl, by omega, ?_⟩
  exact b_b1.out.trans ((b_b2.out.mono b_b1.out.size).trans ((b_p.out.mono (by omega)).trans (g_w4.out.to_below (fun k hk e => by omega) (by omega))))

theorem bv_one (l : List Int) : ∀ u ∈ bv l, u.oneCell' = true := fun u hu => by simp [bv] at hu; obtain ⟨_, _, rfl⟩ := hu; rfl
theorem bv_app (a b : List Int) : bv (a ++ b) = bv a ++ bv b := by simp [bv]
theorem eql_nilA (a : Addr) (n c : Nat) (w : World) : (binOp .eql 32 (.slice (some a) n c) (.slice none 0 0)).run Tryz.prog w = .ok (.bool false) w := by kernel_rfl
theorem own_done (w : World) (l : List Int) (hb : l.length ≤ 140737488355328) : Own (w.alloc (.cells (bv l).toArray 5)) (.slice (some ⟨w.heap.size, 0, none⟩) l.length l.length) l :=
  Own.mk (Blk.new w 5 _) (Nat.le_refl _) (by unfold maxLen; omega) (by simp [bv_len]) (by simp [← bv_len])
theorem Tryz.info5 : (Tryz.prog.info? 5).map (fun i => (i.zero, i.size, i.bytes)) = some (some (.int .u8 0), 1, 1) := by kernel_rfl
theorem run_app_cells (w : World) (ty : TypeId) (v : Value) (l : List Int) (hown : Own w v l) (a : Addr) (c : Nat) (m : List Int) (hnews : ∀ j u, (bv m)[j]? = some u → w.cell? (a.add j) = some u) (hb : l.length + m.length ≤ 140737488355328) :
    ∃ v' w', (Builtin.append_ #[32, 32] ty #[v, .slice (some a) m.length c]).run Tryz.prog w = .ok v' w' ∧ AppPost w v (l ++ m) v' w' := by
  obtain ⟨i, hi, hzz⟩ := Option.map_eq_some_iff.1 Tryz.info5
  simp only [Prod.mk.injEq] at hzz
  obtain ⟨hz, hsz, hby⟩ := hzz
  have h63 : l.length + m.length ≤ maxLen := by unfold maxLen; omega
  have hlm : (bv m).length = m.length * i.size := by rw [bv_len, hsz]; omega
  obtain ⟨v', w', hr, h1, h2, _, h3⟩ := run_append_own_at (P := Tryz.prog) w 0 32 ty 5 i (.int .u8 0) 1 1 Tryz.underlying32 hi hz hsz hby rfl (by omega) v l.length (bv l) hown a m.length c (bv m) (by rw [bv_len]; omega) hnews (bv_one m) h63 (by omega) (Nat.zero_le _)
  have hO : Own w' v' (l ++ m) := by unfold Own; rw [List.length_append, bv_app]; exact h1
  refine ⟨v', w', hr, hO, ?_⟩
  rcases hown.form with ⟨rfl, rfl⟩ | ⟨g, cap, cur, rfl, hg, hnc, hcm, hcs, htake⟩
  · rcases h3 with h3 | h3
    · exact .inl ⟨h3, Grown.of h2 fun k _ e => by simp [Value.ownBlock] at e⟩
    · exact .inr ⟨h3, h2.os, h2.tape, h2.output, h2.size, fun k hk => h2.block k hk (by simp [Value.ownBlock])⟩
  · by_cases hroom : l.length + m.length ≤ cap
    · have hr2 := run_append_room (P := Tryz.prog) w 32 ty 5 i Tryz.underlying32 hi g l.length cap cur hg a m.length c (bv m) hlm hnews (bv_one m) hroom (by rw [hsz, bv_len, hcs]; omega)
      have e := hr.symm.trans hr2
      injection e with e1 e2
      subst e1
      exact .inl ⟨rfl, Grown.of h2 fun k _ e => e⟩
    · have holds : ∀ j u, (bv l)[j]? = some u → w.cell? ((⟨g, 0, none⟩ : Addr).add j) = some u := World.ownsRow.cells (g := g) hown rfl
      have hr2 := run_append_grow (P := Tryz.prog) w 32 ty 5 i (.int .u8 0) Tryz.underlying32 hi hz ⟨g, 0, none⟩ l.length cap (bv l) (by rw [bv_len, hsz]; omega) holds a m.length c (bv m) hlm hnews (by omega) (by omega) (by rw [hby]; exact growslice_fits (by omega) (by omega))
      have e := hr.symm.trans hr2
      injection e with e1 e2
      subst e1 e2
      exact .inr ⟨rfl, ⟨rfl, rfl, rfl, by simp, fun k hk => Below.heap_alloc w.drew _ k hk⟩⟩
theorem run_app_row (w : World) (ty : TypeId) (v vx : Value) (l m : List Int) (hown : Own w v l) (hrow : RowAt w vx m) (hb : l.length + m.length ≤ 140737488355328) :
    ∃ v' w', (Builtin.append_ #[32, 32] ty #[v, vx]).run Tryz.prog w = .ok v' w' ∧ AppPost w v (l ++ m) v' w' := by
  rcases hrow with ⟨rfl, rfl⟩ | ⟨ad, c, rfl, rfl⟩ | ⟨b, off, cap, rfl, hcap, hc⟩
  · obtain ⟨i, hi, _⟩ := Option.map_eq_some_iff.1 Tryz.info5
    have hrun := run_append_owned_none (P := Tryz.prog) (w := w) 0 32 ty 5 i 1 Tryz.underlying32 hi v l.length (bv l) hown
    exact ⟨v, w, hrun, by simpa using hown, .inl ⟨rfl, Grown.refl _ _⟩⟩
  · exact run_app_cells w ty v l hown ad c [] (fun j u hu => by simp [bv] at hu) hb
  · refine run_app_cells w ty v l hown ⟨b, off, none⟩ cap m (fun j u hu => ?_) hb
    have hj : j < m.length := by have := (List.getElem?_eq_some_iff.1 hu).1; rwa [bv_len] at this
    rw [bv_get m j hj] at hu
    rw [Addr.add_mid, hc j hj]; exact hu
theorem WL.app {ops : Array Oper} {rest : List Oper} {o : Oper} {a : Act} {w : World} {Q : Exit → Act → World → Prop} (hw : Region.wanted o (yielded ops a.tmps) = true) (s x : Operand)
    (ho : o.op = .call { callee := .builtin .append, args := #[s, x], argTypes := #[32, 32] }) (v vx : Value) (l m : List Int)
    (hs : a.eval s = v) (hx : a.eval x = vx) (hown : Own w v l) (hrow : RowAt w vx m) (hb : l.length + m.length ≤ 140737488355328)
    (h : ∀ v' w', AppPost w v (l ++ m) v' w' → WL Tryz.prog ops Q rest (a.put o.dst v') w') : WL Tryz.prog ops Q (o :: rest) a w :=
  ⟨wpList_wanted hw fun K hK => by
    obtain ⟨v', w', hr, h2⟩ := run_app_row w o.type v vx l m hown hrow hb
    unfold Oper.wp execOp
    simp only [ho, resolve, invoke, builtin, Sem.run_bind, Sem.run_pure, Result.andThen_ok, List.map_toArray, List.map_cons, List.map_nil, hs, hx, hr]
    exact hK _ _ (h v' w' h2).out⟩
theorem bsE (w : World) : (Instr.buildSlice 32 0 #[]).run Tryz.prog w = .ok (.slice (some ⟨w.heap.size, 0, none⟩) 0 0) (w.alloc (.cells #[] 5)) := by kernel_rfl
theorem eql_nn (w : World) : (binOp .eql 32 (.slice none 0 0) (.slice none 0 0)).run Tryz.prog w = .ok (.bool true) w := by kernel_rfl
set_option maxRecDepth 8000 in
theorem clo_some (w : World) (pa : Addr) (n pc : Nat) (b : List Int) (HB : Keep (RowAt w (.slice (some pa) n pc) b)) (HL : Keep (b.length ≤ 140737488355328)) : Calls Tryz.prog 39 #[.slice (some pa) n pc] w fun e w' => ∃ v, e = .returned v ∧ Own w' v b ∧ (∀ k, v.ownBlock = some k → w.heap.size ≤ k) ∧ Below w.heap.size w w' := by
  go_enter Tryz.func39, Tryz.ntmps39
  refine wp_seq_k fun K1 hK1 => ?_
  refine wp_region_list (WL.out ?_)
  refine WL.val (by kernel_rfl) (.slice none 0 0) (by go_simp) ?_
  simp only [Act.put, List.setIfInBounds_toArray, List.set_cons_zero, List.set_cons_succ]
  refine WL.nil ?_
  refine hK1 _ _ ?_
  refine wp_seq_k fun K2 hK2 => ?_
  refine wp_seq_k fun K3 hK3 => ?_
  refine wp_region_list (WL.out ?_)
  refine WL.val (by kernel_rfl) (.slice (some pa) n pc) (by go_simp) ?_
  simp only [Act.put, List.setIfInBounds_toArray, List.set_cons_zero, List.set_cons_succ]
  refine WL.val (by kernel_rfl) (.bool false) (by have h := eql_nilA pa n pc w; go_simp) ?_
  simp only [Act.put, List.setIfInBounds_toArray, List.set_cons_zero, List.set_cons_succ]
  refine WL.nil ?_
  refine hK3 _ _ ?_
  refine wp_cond_false rfl ?_
  refine wp_skip ?_
  refine hK2 _ _ ?_
  refine wp_seq_k fun K4 hK4 => ?_
  refine wp_region_list (WL.out ?_)
  refine WL.bs (by kernel_rfl) 32 0 #[] rfl #[] (by simp) _ _ (bsE w) ?_
  have O1 := Keep.mk (own_done w [] (by simp))
  have b1 := Keep.mk (below_new w (.cells #[] 5))
  change Keep (Own (w.alloc (.cells #[] 5)) _ []) at O1
  have Y1 := Keep.mk (HB.out.below b1.out)
  generalize w.alloc (.cells #[] 5) = w1 at *
  obtain ⟨g, hg⟩ : ∃ z, Keep (z = w.heap.size) := ⟨_, ⟨rfl⟩⟩
  rw [← hg.out] at O1 ⊢
  simp only [Act.put, List.setIfInBounds_toArray, List.set_cons_zero, List.set_cons_succ]
  refine WL.val (by kernel_rfl) (.slice (some pa) n pc) (by go_simp) ?_
  simp only [Act.put, List.setIfInBounds_toArray, List.set_cons_zero, List.set_cons_succ]
  refine WL.app (by kernel_rfl) (.tmp 5) (.tmp 6) rfl (.slice (some ⟨g, 0, none⟩) 0 0) (.slice (some pa) n pc) [] b rfl rfl O1.out Y1.out (by simpa using HL.out) ?_
  intro v2 w2 hp
  have O2 : Keep (Own w2 v2 b) := ⟨by simpa using hp.1⟩
  have B2 : Keep (Below w.heap.size w w2) := ⟨b1.out.trans (hp.grown.to_below (fun k hk e => by simp [Value.ownBlock] at e; have := hg.out; omega) b1.out.size)⟩
  have F2 : Keep (∀ k, v2.ownBlock = some k → w.heap.size ≤ k) := ⟨fun k hk => by
    rcases hp.moved with e | ⟨m, e, h2⟩
    · rw [e] at hk; simp [Value.ownBlock] at hk; have := hg.out; omega
    · rw [e] at hk; injection hk with hk; subst hk; have := b1.out.size; omega⟩
  clear hp
  simp only [Act.put, List.setIfInBounds_toArray, List.set_cons_zero, List.set_cons_succ]
  refine WL.val (by kernel_rfl) (v2) (by go_simp) ?_
  simp only [Act.put, List.setIfInBounds_toArray, List.set_cons_zero, List.set_cons_succ]
  refine WL.nil ?_
  refine hK4 _ _ ?_
  refine wp_ret ?_
  go_ret
  exact ⟨v2, rfl, O2.out, F2.out, B2.out⟩

theorem Tryz.in173 (w : World) (vs : Array Value) : (callFunc 173 vs).run Tryz.prog w = .ok (.enter 173 vs) w := by kernel_rfl
theorem Tryz.in32 (w : World) (vs : Array Value) : (callFunc 32 vs).run Tryz.prog w = .ok (.enter 32 vs) w := by kernel_rfl
theorem Tryz.in39 (w : World) (vs : Array Value) : (callFunc 39 vs).run Tryz.prog w = .ok (.enter 39 vs) w := by kernel_rfl
theorem wp_callI {Q : Exit → Act → World → Prop} {o : Oper} {a : Act} {w : World} {K : Act → World → Prop} (f : FuncId) (vs : Array Value) (hr : (execOp a.eval o).run Tryz.prog w = .ok (.enter f vs) w)
    (R : Value → World → Prop) (hc : Calls Tryz.prog f vs w fun e w' => ∃ v, e = .returned v ∧ R v w') (h : ∀ v w', R v w' → K (a.put o.dst v) w') : o.wp Tryz.prog a w K Q := by
  unfold Oper.wp
  rw [hr, Oper.upon_enter]
  refine hc.mono ?_
  rintro e w' ⟨v, rfl, hr⟩
  exact h v w' hr
set_option maxRecDepth 8000 in
theorem nokeep (v : Value) (w : World) : Calls Tryz.prog 173 #[.agg #[], v] w fun e w' => e = .returned (.int .i64 0) ∧ Below w.heap.size w w' := by
  go_enter Tryz.func173, Tryz.ntmps173
  refine wp_seq_k fun K1 hK1 => ?_
  refine wp_region_list (WL.out ?_)
  refine WL.box (by kernel_rfl) 40 (.tmp 0) rfl #[] rfl ?_
  have H2 := Keep.mk (Blk.new w 40 #[])
  have b_b2 := Keep.mk (below_new w (.cells #[] 40))
  change WL _ _ _ _ _ (w.alloc (.cells #[] 40))
  generalize w.alloc (.cells #[] 40) = w1 at *
  obtain ⟨b2, hb2⟩ : ∃ z, Keep (z = w.heap.size) := ⟨_, ⟨rfl⟩⟩
  rw [← hb2.out] at H2 ⊢
  simp only [Act.put, List.setIfInBounds_toArray, List.set_cons_zero, List.set_cons_succ]
  refine WL.val (by kernel_rfl) (.int .i64 0) (by go_simp) ?_
  simp only [Act.put, List.setIfInBounds_toArray, List.set_cons_zero, List.set_cons_succ]
  refine WL.nil ?_
  refine hK1 _ _ ?_
  refine wp_seq_k fun K2 hK2 => ?_
  refine wp_region_list (WL.out ?_)
  refine WL.val (by kernel_rfl) (.int .i64 0) (by go_simp) ?_
  simp only [Act.put, List.setIfInBounds_toArray, List.set_cons_zero, List.set_cons_succ]
  refine WL.nil ?_
  refine hK2 _ _ ?_
  refine wp_ret ?_
  go_ret
  exact ⟨rfl, b_b2.out⟩
theorem row_form {w : World} {v : Value} {l : List Int} (h : RowAt w v l) : ∃ a c, v = .slice a l.length c := by
  rcases h with ⟨rfl, rfl⟩ | ⟨a, c, rfl, rfl⟩ | ⟨q, off, cap, rfl, h1, h2⟩
  · exact ⟨_, _, rfl⟩
  · exact ⟨_, _, rfl⟩
  · exact ⟨_, _, rfl⟩
theorem Nd_sl {w : World} {v : Value} {l : List Int} (h : Own w v l) : ∃ a n c, v = .slice a n c := by
  obtain ⟨a, c, hv⟩ := row_form h.row
  exact ⟨a, _, c, hv⟩
set_option maxRecDepth 8000 in
set_option maxHeartbeats 1000000 in
theorem keep_ok (s d mb : Nat) (g : DG) (Av : Nat → Prop) (w : World) (HS : Keep (ShAt w s d mb g Av)) (ad : Addr) (n c : Nat) (l : List Int) (HR : Keep (RowAt w (.slice (some ad) n c) l)) (HL : Keep (l.length ≤ 140737488355328)) : Calls Tryz.prog 32 #[.pointer (some ⟨s, 0, none⟩), .slice (some ad) n c] w fun e w' => e = .returned (.int .i64 0) ∧ Below w.heap.size w w' := by
  go_enter Tryz.func32, Tryz.ntmps32
  refine wp_seq_k fun K1 hK1 => ?_
  refine wp_region_list (WL.out ?_)
  refine WL.val (by kernel_rfl) (.int .i64 0) (by go_simp) ?_
  simp only [Act.put, List.setIfInBounds_toArray, List.set_cons_zero, List.set_cons_succ]
  refine WL.nil ?_
  refine hK1 _ _ ?_
  refine wp_seq_k fun K2 hK2 => ?_
  refine wp_region_held_drew (S := fun wx => wx.cell? ⟨s, 0, none⟩ = some (.iface 40 (.agg #[]))) (by kernel_rfl) (HS.out.bl.drew.c 0 rfl) (fun hHeld => ?_)
  have HS1 := Keep.mk (HS.out.below (Below.refl w.heap.size w).drew)
  have HR1 := Keep.mk (HR.out.below (Below.refl w.heap.size w).drew)
  have b1 := Keep.mk ((Below.refl w.heap.size w).drew)
  generalize w.drew = w1 at *
  refine wpAnyH_take (i := 0) (oi := ⟨some 6, Op.move (Operand.tmp 0), 23, _, _, none⟩) (v := .pointer (some ⟨s, 0, none⟩)) rfl (by kernel_rfl) (by kernel_rfl) (by kernel_rfl) (fun _ _ _ h => h) (Or.inl ⟨by rfl, fun w hS => by have cS := hS; go_simp⟩) hHeld ?_
  simp only [Act.put, List.setIfInBounds_toArray, List.set_cons_zero, List.set_cons_succ]
  refine wpAnyH_take (i := 1) (oi := ⟨some 7, Op.nilCheck (Operand.tmp 6), 0, _, _, none⟩) (v := .pointer (some ⟨s, 0, none⟩)) rfl (by kernel_rfl) (by kernel_rfl) (by kernel_rfl) (fun _ _ _ h => h) (Or.inl ⟨by rfl, fun w hS => by have cS := hS; go_simp⟩) hHeld ?_
  simp only [Act.put, List.setIfInBounds_toArray, List.set_cons_zero, List.set_cons_succ]
  refine wpAnyH_take (i := 2) (oi := ⟨some 8, Op.fieldAddr 47 (Operand.tmp 7) 0, 0, _, _, none⟩) (v := .pointer (some ⟨s, 0, none⟩)) rfl (by kernel_rfl) (by kernel_rfl) (by kernel_rfl) (fun _ _ _ h => h) (Or.inl ⟨by rfl, fun w hS => by have cS := hS; go_simp⟩) hHeld ?_
  simp only [Act.put, List.setIfInBounds_toArray, List.set_cons_zero, List.set_cons_succ]
  refine wpAnyH_take (i := 3) (oi := ⟨some 9, Op.load 38 (Operand.tmp 8), 38, _, _, none⟩) (v := .iface 40 (.agg #[])) rfl (by kernel_rfl) (by kernel_rfl) (by kernel_rfl) (fun _ _ _ h => h) (Or.inl ⟨by rfl, fun w hS => by have cS := hS; go_simp⟩) hHeld ?_
  simp only [Act.put, List.setIfInBounds_toArray, List.set_cons_zero, List.set_cons_succ]
  refine wpAnyH_take (i := 6) (oi := ⟨some 12, Op.nilCheck (Operand.tmp 9), 38, _, _, none⟩) (v := .iface 40 (.agg #[])) rfl (by kernel_rfl) (by kernel_rfl) (by kernel_rfl) (fun _ _ _ h => h) (Or.inl ⟨by rfl, fun w hS => by have cS := hS; go_simp⟩) hHeld ?_
  simp only [Act.put, List.setIfInBounds_toArray, List.set_cons_zero, List.set_cons_succ]
  refine wpAnyH_take (i := 7) (oi := ⟨some 13, Op.move (Operand.tmp 9), 38, _, _, none⟩) (v := .iface 40 (.agg #[])) rfl (by kernel_rfl) (by kernel_rfl) (by kernel_rfl) (fun _ _ _ h => h) (Or.inl ⟨by rfl, fun w hS => by have cS := hS; go_simp⟩) hHeld ?_
  simp only [Act.put, List.setIfInBounds_toArray, List.set_cons_zero, List.set_cons_succ]
  refine wpAnyH_take (i := 4) (oi := ⟨some 10, Op.move (Operand.tmp 1), 32, _, _, none⟩) (v := .slice (some ad) n c) rfl (by kernel_rfl) (by kernel_rfl) (by kernel_rfl) (fun _ _ _ h => h) (Or.inl ⟨by rfl, fun w hS => by have cS := hS; go_simp⟩) hHeld ?_
  simp only [Act.put, List.setIfInBounds_toArray, List.set_cons_zero, List.set_cons_succ]
  refine wpAnyH_ready (rs := [5]) (by kernel_rfl) (by simp) ?_
  refine AllReadyH.cons (o := ⟨some 11, Op.call { callee := Callee.value (Operand.func 39), args := #[Operand.tmp 10], argTypes := #[32] }, 32, _, _, none⟩) rfl (fun K hK => ?_) AllReadyH.nil
  rw [if_pos (by rfl)]
  refine wp_callF 39 _ _ rfl Tryz.in39 #[.slice (some ad) n c] (by simp [Act.eval]) (fun vz wz => ∃ v, vz = v ∧ Below w1.heap.size w1 wz ∧ ∃ ua un uc, v = .slice ua un uc) ?_ ?_
  · refine (clo_some w1 ad n c l HR1 HL).mono ?_
    rintro e wz ⟨v, rfl, k1, k2, k3⟩
    exact ⟨_, rfl, v, rfl, k3, Nd_sl k1⟩
  rintro vz wa ⟨u, rfl, k1, ua, un, uc, rfl⟩
  have ba := Keep.mk k1
  clear k1
  refine hK _ _ (by rw [ba.out.cell (p := ⟨s, 0, none⟩) HS1.out.bl.lt]; exact HS1.out.bl.c 0 rfl) fun hHa => ?_
  clear hK
  simp only [Act.put, List.setIfInBounds_toArray, List.set_cons_zero, List.set_cons_succ]
  refine wpAnyH_ready (rs := [8]) (by kernel_rfl) (by simp) ?_
  refine AllReadyH.cons (o := ⟨some 14, Op.call { callee := Callee.invoke (Operand.tmp 13) "Keep", args := #[Operand.tmp 11], argTypes := #[32] }, 42, _, _, none⟩) rfl (fun K hK => ?_) AllReadyH.nil
  rw [if_pos (by rfl)]
  refine wp_callI 173 #[.agg #[], .slice ua un uc] (by kernel_rfl) (fun vz wz => vz = .int .i64 0 ∧ Below wa.heap.size wa wz) ?_ ?_
  · refine (nokeep (.slice ua un uc) wa).mono ?_
    rintro e wz ⟨rfl, k1⟩
    exact ⟨_, rfl, rfl, k1⟩
  rintro vz wb ⟨rfl, k1⟩
  have bb : Keep (Below w1.heap.size w1 wb) := ⟨ba.out.trans (k1.mono ba.out.size)⟩
  clear k1
  refine hK _ _ (by rw [bb.out.cell (p := ⟨s, 0, none⟩) HS1.out.bl.lt]; exact HS1.out.bl.c 0 rfl) fun hHb => ?_
  clear hK
  simp only [Act.put, List.setIfInBounds_toArray, List.set_cons_zero, List.set_cons_succ]
  refine wpAnyH_take (i := 9) (oi := ⟨some 5, Op.assign (Operand.tmp 14), 42, _, _, none⟩) (v := .int .i64 0) rfl (by kernel_rfl) (by kernel_rfl) (by kernel_rfl) (fun _ _ _ h => h) (Or.inl ⟨by rfl, fun w hS => by have cS := hS; go_simp⟩) hHb ?_
  simp only [Act.put, List.setIfInBounds_toArray, List.set_cons_zero, List.set_cons_succ]
  refine wpAnyH_done (by kernel_rfl) ?_ _
  refine hK2 _ _ ?_
  refine wp_seq_k fun K3 hK3 => ?_
  refine wp_seq_k fun K4 hK4 => ?_
  refine wp_region_list (WL.out ?_)
  refine WL.val (by kernel_rfl) (.int .i64 0) (by go_simp) ?_
  simp only [Act.put, List.setIfInBounds_toArray, List.set_cons_zero, List.set_cons_succ]
  refine WL.val (by kernel_rfl) (.bool false) (by go_simp) ?_
  simp only [Act.put, List.setIfInBounds_toArray, List.set_cons_zero, List.set_cons_succ]
  refine WL.nil ?_
  refine hK4 _ _ ?_
  refine wp_cond_false rfl ?_
  refine wp_skip ?_
  refine hK3 _ _ ?_
  refine wp_seq_k fun K5 hK5 => ?_
  refine wp_region_list (WL.out ?_)
  refine WL.val (by kernel_rfl) (.int .i64 0) (by go_simp) ?_
  simp only [Act.put, List.setIfInBounds_toArray, List.set_cons_zero, List.set_cons_succ]
  refine WL.val (by kernel_rfl) (.int .i64 0) (by go_simp) ?_
  simp only [Act.put, List.setIfInBounds_toArray, List.set_cons_zero, List.set_cons_succ]
  refine WL.nil ?_
  refine hK5 _ _ ?_
  refine wp_ret ?_
  go_ret
  exact ⟨rfl, b1.out.trans (bb.out.mono b1.out.size)⟩

theorem Tryz.in63 (w : World) (vs : Array Value) : (callFunc 63 vs).run Tryz.prog w = .ok (.enter 63 vs) w := by kernel_rfl
theorem Tryz.in34 (w : World) (vs : Array Value) : (callFunc 34 vs).run Tryz.prog w = .ok (.enter 34 vs) w := by kernel_rfl
theorem bldV0 : Tryz.prog.built 61 [] = some (vtx (fun _ => 0) 0 (.slice none 0 0)) := by kernel_rfl
set_option maxRecDepth 8000 in
theorem next_none (d : Nat) (g : DG) (Av : Nat → Prop) (w : World) (HD : Keep (DagAt w Av d g)) (HQ : Keep (g.queue = [])) : Calls Tryz.prog 63 #[.pointer (some ⟨d, 0, none⟩)] w fun e w' => e = .returned (.tuple #[.agg (vtx (fun _ => 0) 0 (.slice none 0 0)), .bool false]) ∧ Below w.heap.size w w' := by
  go_enter Tryz.func63, Tryz.ntmps63
  refine wp_seq_k fun K1 hK1 => ?_
  refine wp_region_list (WL.out ?_)
  refine WL.new (by kernel_rfl) 61 rfl _ Tryz.new61v ?_
  have H2 := Keep.mk (Blk.new w 61 (vtx (fun _ => 0) 0 (.slice none 0 0)))
  have b_b2 := Keep.mk (below_new w (.cells (vtx (fun _ => 0) 0 (.slice none 0 0)) 61))
  generalize w.alloc (.cells (vtx (fun _ => 0) 0 (.slice none 0 0)) 61) = w1 at *
  obtain ⟨b2, hb2⟩ : ∃ z, Keep (z = w.heap.size) := ⟨_, ⟨rfl⟩⟩
  rw [← hb2.out] at H2 ⊢
  have HD1 := Keep.mk (HD.out.below b_b2.out)
  obtain ⟨_, _, _, _, qa, qc, _, _, hq⟩ := HD1.out.form
  have cq : w1.cell? ⟨d, 5, none⟩ = some (.slice qa 0 qc) := by
    have h : w1.cell? ⟨d, 5, none⟩ = some g.qv := HD1.out.blk.c 5 rfl
    rw [hq, HQ.out] at h
    exact h
  simp only [Act.put, List.setIfInBounds_toArray, List.set_cons_zero, List.set_cons_succ]
  refine WL.val (by kernel_rfl) (.bool false) (by go_simp) ?_
  simp only [Act.put, List.setIfInBounds_toArray, List.set_cons_zero, List.set_cons_succ]
  refine WL.nil ?_
  refine hK1 _ _ ?_
  refine wp_seq_k fun K2 hK2 => ?_
  refine wp_seq_k fun K3 hK3 => ?_
  refine wp_region_list (WL.out ?_)
  refine WL.val (by kernel_rfl) (.pointer (some ⟨d, 0, none⟩)) (by go_simp) ?_
  simp only [Act.put, List.setIfInBounds_toArray, List.set_cons_zero, List.set_cons_succ]
  refine WL.val (by kernel_rfl) (.pointer (some ⟨d, 0, none⟩)) (by go_simp) ?_
  simp only [Act.put, List.setIfInBounds_toArray, List.set_cons_zero, List.set_cons_succ]
  refine WL.val (by kernel_rfl) (.pointer (some ⟨d, 5, none⟩)) (by go_simp) ?_
  simp only [Act.put, List.setIfInBounds_toArray, List.set_cons_zero, List.set_cons_succ]
  refine WL.val (by kernel_rfl) (.slice qa 0 qc) (by go_simp) ?_
  simp only [Act.put, List.setIfInBounds_toArray, List.set_cons_zero, List.set_cons_succ]
  refine WL.val (by kernel_rfl) (.int .i64 0) (by go_simp) ?_
  simp only [Act.put, List.setIfInBounds_toArray, List.set_cons_zero, List.set_cons_succ]
  refine WL.val (by kernel_rfl) (.int .i64 0) (by go_simp) ?_
  simp only [Act.put, List.setIfInBounds_toArray, List.set_cons_zero, List.set_cons_succ]
  refine WL.nil ?_
  refine hK3 _ _ ?_
  refine wp_block ?_
  refine wp_loop_rounds 1 ?_
  rw [rounds_succ]
  refine wp_seq_k fun K4 hK4 => ?_
  refine wp_region_list (WL.out ?_)
  refine WL.val (by kernel_rfl) (.bool false) (by go_simp) ?_
  simp only [Act.put, List.setIfInBounds_toArray, List.set_cons_zero, List.set_cons_succ]
  refine WL.nil ?_
  refine hK4 _ _ ?_
  refine wp_seq_k fun K5 hK5 => ?_
  refine wp_cond_false rfl ?_
  refine wp_exit ?_
  refine hK2 _ _ ?_
  refine wp_seq_k fun K6 hK6 => ?_
  refine wp_region_list (WL.out ?_)
  refine WL.bld (by kernel_rfl) 61 _ rfl [] (by simp) (vtx (fun _ => 0) 0 (.slice none 0 0)) bldV0 ?_
  simp only [Act.put, List.setIfInBounds_toArray, List.set_cons_zero, List.set_cons_succ]
  refine WL.storeR (by kernel_rfl) 61 (.tmp 2) (.tmp 29) rfl b2 (vtx (fun _ => 0) 0 (.slice none 0 0)) rfl rfl 61 (vtx (fun _ => 0) 0 (.slice none 0 0)) H2.out (sizeV62 _ _ _) rfl (vtx_one _ _ _ (slice_one _ _ _)) ?_
  have H3 := Keep.mk (H2.out.setRow (vtx (fun _ => 0) 0 (.slice none 0 0)))
  have g_w2 : Keep (Grown w1 (w1.setRow b2 (vtx (fun _ => 0) 0 (.slice none 0 0))) fun k => k = b2) := ⟨Grown.setRow w1 b2 _ fun _ => rfl⟩
  clear H2
  generalize w1.setRow b2 (vtx (fun _ => 0) 0 (.slice none 0 0)) = w2 at *
  clear cq
  simp only [Act.put]
  refine WL.val (by kernel_rfl) (.bool false) (by go_simp) ?_
  simp only [Act.put, List.setIfInBounds_toArray, List.set_cons_zero, List.set_cons_succ]
  refine WL.nil ?_
  refine hK6 _ _ ?_
  refine wp_ret ?_
  have k1 := hb2.out
  exact bodyPost_ret (Nd.results_cell_row2 Tryz.results63 _ _ b2 61 _ (0, 0) _ _ rfl rfl H3.out Tryz.underlying61 rfl (sizeV62 _ _ _)) rfl ⟨rfl, b_b2.out.trans (g_w2.out.to_below (fun k hk e => by omega) b_b2.out.size)⟩
set_option maxRecDepth 8000 in
theorem follow_none (s d mb : Nat) (g : DG) (Av : Nat → Prop) (w : World) (HS : Keep (ShAt w s d mb g Av)) (HQ : Keep (g.queue = [])) : Calls Tryz.prog 34 #[.pointer (some ⟨s, 0, none⟩)] w fun e w' => e = .returned (.tuple #[.slice none 0 0, .slice none 0 0]) ∧ Below w.heap.size w w' := by
  go_enter Tryz.func34, Tryz.ntmps34
  refine wp_seq_k fun K1 hK1 => ?_
  refine wp_region_list (WL.out ?_)
  refine WL.val (by kernel_rfl) (.slice none 0 0) (by go_simp) ?_
  simp only [Act.put, List.setIfInBounds_toArray, List.set_cons_zero, List.set_cons_succ]
  refine WL.val (by kernel_rfl) (.slice none 0 0) (by go_simp) ?_
  simp only [Act.put, List.setIfInBounds_toArray, List.set_cons_zero, List.set_cons_succ]
  refine WL.nil ?_
  refine hK1 _ _ ?_
  refine wp_block ?_
  refine wp_loop_rounds 1 ?_
  rw [rounds_succ]
  refine wp_block ?_
  refine wp_seq_k fun K2 hK2 => ?_
  refine wp_region_list (WL.out ?_)
  refine WL.val (by kernel_rfl) (.pointer (some ⟨s, 0, none⟩)) (by go_simp) ?_
  simp only [Act.put, List.setIfInBounds_toArray, List.set_cons_zero, List.set_cons_succ]
  refine WL.val (by kernel_rfl) (.pointer (some ⟨s, 0, none⟩)) (by go_simp) ?_
  simp only [Act.put, List.setIfInBounds_toArray, List.set_cons_zero, List.set_cons_succ]
  refine WL.val (by kernel_rfl) (.pointer (some ⟨s, 1, none⟩)) (by go_simp) ?_
  simp only [Act.put, List.setIfInBounds_toArray, List.set_cons_zero, List.set_cons_succ]
  have cs := HS.out.bl.c 1 rfl
  refine WL.val (by kernel_rfl) (.pointer (some ⟨d, 0, none⟩)) (by go_simp) ?_
  clear cs
  simp only [Act.put, List.setIfInBounds_toArray, List.set_cons_zero, List.set_cons_succ]
  refine WL.callF (by kernel_rfl) 63 _ _ rfl Tryz.in63 #[.pointer (some ⟨d, 0, none⟩)] (by simp [Act.eval]) ?_
  refine (next_none d g Av w ⟨HS.out.dg⟩ HQ).mono ?_
  rintro e w1 ⟨rfl, hb⟩
  refine ⟨_, rfl, ?_⟩
  have B1 := Keep.mk hb
  clear hb
  simp only [Act.put, List.setIfInBounds_toArray, List.set_cons_zero, List.set_cons_succ]
  refine WL.val (by kernel_rfl) (.tuple #[.agg (vtx (fun _ => 0) 0 (.slice none 0 0)), .bool false]) (by go_simp) ?_
  simp only [Act.put, List.setIfInBounds_toArray, List.set_cons_zero, List.set_cons_succ]
  refine WL.val (by kernel_rfl) (.agg (vtx (fun _ => 0) 0 (.slice none 0 0))) (by go_simp) ?_
  simp only [Act.put, List.setIfInBounds_toArray, List.set_cons_zero, List.set_cons_succ]
  refine WL.val (by kernel_rfl) (.bool false) (by go_simp) ?_
  simp only [Act.put, List.setIfInBounds_toArray, List.set_cons_zero, List.set_cons_succ]
  refine WL.new (by kernel_rfl) 61 rfl _ Tryz.new61v ?_
  have H4 := Keep.mk (Blk.new w1 61 (vtx (fun _ => 0) 0 (.slice none 0 0)))
  have b_b4 := Keep.mk (below_new w1 (.cells (vtx (fun _ => 0) 0 (.slice none 0 0)) 61))
  generalize w1.alloc (.cells (vtx (fun _ => 0) 0 (.slice none 0 0)) 61) = w2 at *
  obtain ⟨b4, hb4⟩ : ∃ z, Keep (z = w1.heap.size) := ⟨_, ⟨rfl⟩⟩
  rw [← hb4.out] at H4 ⊢
  simp only [Act.put, List.setIfInBounds_toArray, List.set_cons_zero, List.set_cons_succ]
  refine WL.storeR (by kernel_rfl) 61 (.tmp 4) (.tmp 12) rfl b4 (vtx (fun _ => 0) 0 (.slice none 0 0)) rfl rfl 61 (vtx (fun _ => 0) 0 (.slice none 0 0)) H4.out (sizeV62 _ _ _) rfl (vtx_one _ _ _ (slice_one _ _ _)) ?_
  have H5 := Keep.mk (H4.out.setRow (vtx (fun _ => 0) 0 (.slice none 0 0)))
  have g_w3 : Keep (Grown w2 (w2.setRow b4 (vtx (fun _ => 0) 0 (.slice none 0 0))) fun k => k = b4) := ⟨Grown.setRow w2 b4 _ fun _ => rfl⟩
  clear H4
  generalize w2.setRow b4 (vtx (fun _ => 0) 0 (.slice none 0 0)) = w3 at *
  simp only [Act.put]
  refine WL.val (by kernel_rfl) (.bool false) (by go_simp) ?_
  simp only [Act.put, List.setIfInBounds_toArray, List.set_cons_zero, List.set_cons_succ]
  refine WL.nil ?_
  refine hK2 _ _ ?_
  refine wp_seq_k fun K3 hK3 => ?_
  refine wp_seq_k fun K4 hK4 => ?_
  refine wp_region_list (WL.out ?_)
  refine WL.val (by kernel_rfl) (.bool false) (by go_simp) ?_
  simp only [Act.put, List.setIfInBounds_toArray, List.set_cons_zero, List.set_cons_succ]
  refine WL.val (by kernel_rfl) (.bool true) (by go_simp) ?_
  simp only [Act.put, List.setIfInBounds_toArray, List.set_cons_zero, List.set_cons_succ]
  refine WL.nil ?_
  refine hK4 _ _ ?_
  refine wp_cond_true rfl ?_
  refine wp_seq_k fun K5 hK5 => ?_
  refine wp_region_list (WL.out ?_)
  refine WL.val (by kernel_rfl) (.slice none 0 0) (by go_simp) ?_
  simp only [Act.put, List.setIfInBounds_toArray, List.set_cons_zero, List.set_cons_succ]
  refine WL.val (by kernel_rfl) (.slice none 0 0) (by go_simp) ?_
  simp only [Act.put, List.setIfInBounds_toArray, List.set_cons_zero, List.set_cons_succ]
  refine WL.val (by kernel_rfl) (.slice none 0 0) (by go_simp) ?_
  simp only [Act.put, List.setIfInBounds_toArray, List.set_cons_zero, List.set_cons_succ]
  refine WL.val (by kernel_rfl) (.slice none 0 0) (by go_simp) ?_
  simp only [Act.put, List.setIfInBounds_toArray, List.set_cons_zero, List.set_cons_succ]
  refine WL.nil ?_
  refine hK5 _ _ ?_
  refine wp_ret ?_
  have k1 := hb4.out
  have k2 := B1.out.size
  try simp only [Exit.inBlock, Exit.then]
  exact bodyPost_ret (results_tmp2 (fn := Tryz.f34) rfl _ _ _) rfl ⟨rfl, B1.out.trans ((b_b4.out.mono k2).trans (g_w3.out.to_below (fun k hk e => by omega) (Nat.le_trans k2 b_b4.out.size)))⟩

theorem Tryz.in33 (w : World) (vs : Array Value) : (callFunc 33 vs).run Tryz.prog w = .ok (.enter 33 vs) w := by kernel_rfl
theorem Tryz.in62 (w : World) (vs : Array Value) : (callFunc 62 vs).run Tryz.prog w = .ok (.enter 62 vs) w := by kernel_rfl
theorem upd46 {w : World} {b : Nat} (h1 : w.heap[b]? = some (.map #[] 0)) (x : Hs) (u : Value) : (Instr.mapUpdate 45 (.map (some b)) (.agg (bytesA 32 x.f)) u).run Tryz.prog w = .ok () { w with heap := w.heap.setIfInBounds b (.map #[⟨.agg (bytesA 32 x.f), u, 0⟩] 1) } := by
  simp [Instr.mapUpdate, run_underlying Tryz.underlying45, MapKept.run_getObj_map h1, Tryz.chk, findKey_eq, Instr.findAsking, MapKept.run_setObj_map _ h1, Result.andThen]
theorem wp_upd46 {Q : Exit → Act → World → Prop} {o : Oper} {a : Act} {w : World} {K : Act → World → Prop} (m k x : Operand) (ho : o.op = .mapUpdate 45 m k x) (vm vk vx : Value) (hm : a.eval m = vm) (hk : a.eval k = vk) (hx : a.eval x = vx) (w' : World)
    (hr : (Instr.mapUpdate 45 vm vk vx).run Tryz.prog w = .ok () w') (h : K (a.put o.dst undef) w') : o.wp Tryz.prog a w K Q :=
  wp_cellS w' (by unfold execOp; simp only [ho, hm, hk, hx, Sem.run_bind, hr, Result.andThen_ok, Sem.run_pure]) h
theorem fit_first (x : Hs) : fitV [] [] ⟨x, 1, []⟩ = (2, 0) := by simp [fitV, hasB, chkV, risesB, nextE, mxC]
theorem fit_again (x : Hs) : fitV [⟨x, 1, []⟩] [] ⟨x, 1, []⟩ = (1, 0) := by simp [fitV, hasB, isV]
theorem hrow0 (w : World) (bp : Nat) : HRow w (.slice (some ⟨bp, 0, none⟩) 0 0) [] := .inl ⟨_, _, rfl, rfl, fun e => by simp at e⟩
def MB (w : World) (mb : Nat) (x : Hs) (l : List Int) (B : Nat) : Prop := ∃ u, w.heap[mb]? = some (.map #[⟨.agg (bytesA 32 x.f), u, 0⟩] 1) ∧ Own w u l ∧ ∀ k, u.ownBlock = some k → B ≤ k
theorem MB.keep {w w' : World} {mb : Nat} {x : Hs} {l : List Int} {B : Nat} {S : Nat → Prop} (h : MB w mb x l B) (hg : Grown w w' S) (h1 : ¬ S mb) (h2 : ∀ k, S k → k < B) : MB w' mb x l B := by
  obtain ⟨u, a, b, c⟩ := h
  exact ⟨u, by rw [hg.block mb (Array.getElem?_eq_some_iff.1 a).1 h1]; exact a, Own.grown b hg fun k hk e => by have := c k hk; have := h2 k e; omega, c⟩
theorem MB.below {w w' : World} {mb : Nat} {x : Hs} {l : List Int} {B : Nat} (h : MB w mb x l B) (hb : Below w.heap.size w w') : MB w' mb x l B := h.keep (Grown.below (S := fun _ => False) hb) id fun _ e => e.elim
theorem MB.mono {w : World} {mb : Nat} {x : Hs} {l : List Int} {B B' : Nat} (h : MB w mb x l B) (hb : B' ≤ B) : MB w mb x l B' := by
  obtain ⟨u, a, b, c⟩ := h
  exact ⟨u, a, b, fun k hk => Nat.le_trans hb (c k hk)⟩
def AddP (w w' : World) (s d mb : Nat) (g : DG) (x : Hs) (l : List Int) : Prop :=
  ∃ g' Av', ShAt w' s d mb g' Av' ∧ g'.held = [⟨x, 1, []⟩] ∧ g'.wait = [] ∧ g'.queue = [] ∧ (g'.order = [x] ∧ MB w' mb x l w.heap.size) ∧ (∀ k, DgS d g' k → DgS d g k ∨ w.heap.size ≤ k) ∧ Grown w w' fun k => k = mb ∨ DgS d g k
theorem gadd_first (d : Nat) (x : Hs) (bp : Nat) (g : DG) (Av : Nat → Prop) (w : World) (hD : DagAt w Av d g) (h1 : g.held = []) (h2 : g.wait = []) (h3 : g.heads = []) (h4 : g.order = []) (h5 : g.queue = []) :
    Calls Tryz.prog 62 #[ptr d, .agg (vtx x.f 1 (.slice (some ⟨bp, 0, none⟩) 0 0))] w fun e w' => e = .returned (.tuple #[.int .i64 2, .slice none 0 0, .int .i64 0]) ∧ ∃ g', Ste w w' Av d g g' ∧ g'.held = [⟨x, 1, []⟩] ∧ g'.wait = [] ∧ g'.queue = [] ∧ g'.order = [x] := by
  have hv : fitV g.held g.wait (⟨x, 1, []⟩ : VX) = (2, 0) := by rw [h1, h2]; exact fit_first x
  refine (add_took d (⟨x, 1, []⟩ : VX) (.slice (some ⟨bp, 0, none⟩) 0 0) Av g w (fun g' => g'.held = [⟨x, 1, []⟩] ∧ g'.wait = [] ∧ g'.queue = [] ∧ g'.order = [x]) hD (hrow0 w bp) (fun v hv => by rw [h1] at hv; simp at hv) (by simp) (by simp) hv ?_).mono ?_
  · intro w1 p1 k1 k2 k3
    refine (take_nil d (⟨x, 1, []⟩ : VX) p1 Av g w1 k1 k2 k3 h1 h4 h3).mono ?_
    rintro e w2 ⟨rfl, g', hs, _, hh, hw, hq, ho, _⟩
    exact ⟨rfl, g', hs, by rw [hh, h1]; rfl, by rw [hw, h2], by rw [hq, h5], ho⟩
  · rintro e w' ⟨rfl, g', hs, hx⟩
    exact ⟨rfl, g', hs, hx⟩
theorem gadd_vv (d : Nat) (x : Hs) (bp : Nat) (vv : Array Value) (hvv : vv = vtx x.f 1 (.slice (some ⟨bp, 0, none⟩) 0 0)) (g : DG) (Av : Nat → Prop) (w : World) (hD : DagAt w Av d g) (h1 : g.held = []) (h2 : g.wait = []) (h3 : g.heads = []) (h4 : g.order = []) (h5 : g.queue = []) :
    Calls Tryz.prog 62 #[ptr d, .agg vv] w fun e w' => e = .returned (.tuple #[.int .i64 2, .slice none 0 0, .int .i64 0]) ∧ ∃ g', Ste w w' Av d g g' ∧ g'.held = [⟨x, 1, []⟩] ∧ g'.wait = [] ∧ g'.queue = [] ∧ g'.order = [x] := by
  subst hvv
  exact gadd_first d x bp g Av w hD h1 h2 h3 h4 h5
theorem vtx_id {w : World} {b : Nat} {c : Nat → Int} {k : Int} {p : Value} (h : w.rangeAt b 0 (vtx c k p).toList) : w.rangeAt b 0 (bytesA 32 c).toList := fun j v hv => h j v (by
  have e : (vtx c k p).toList = (bytesA 32 c).toList ++ [.int .i64 k, p] := by simp [vtx]
  rw [e, List.getElem?_append_left (List.getElem?_eq_some_iff.1 hv).1]; exact hv)
set_option maxRecDepth 8000 in
set_option maxHeartbeats 1000000 in
theorem add_one (s d mb : Nat) (g : DG) (Av : Nat → Prop) (w : World) (HS : Keep (ShAt w s d mb g Av)) (x : Hs) (bp : Nat) (vv : Array Value) (hvv : Keep (vv = vtx x.f 1 (.slice (some ⟨bp, 0, none⟩) 0 0))) (ad : Addr) (n c : Nat) (l : List Int) (HR : Keep (RowAt w (.slice (some ad) n c) l)) (HL : Keep (l.length ≤ 140737488355328)) (HM : Keep (w.heap[mb]? = some (.map #[] 0))) (Hg : Keep (g.held = [] ∧ g.wait = [] ∧ g.heads = [] ∧ g.order = [] ∧ g.queue = [])) (HML : Keep (mb < w.heap.size)) (HDl : Keep (∀ k, DgS d g k → k < w.heap.size)) : Calls Tryz.prog 33 #[.pointer (some ⟨s, 0, none⟩), .agg vv, .slice (some ad) n c] w fun e w' => e = .returned (.slice none 0 0) ∧ AddP w w' s d mb g x l := by
  go_enter Tryz.func33, Tryz.ntmps33
  refine wp_seq_k fun K1 hK1 => ?_
  refine wp_region_list (WL.out ?_)
  refine WL.box (by kernel_rfl) 61 (.tmp 1) rfl vv rfl ?_
  have H4 := Keep.mk (Blk.new w 61 vv)
  have b_b4 := Keep.mk (below_new w (.cells vv 61))
  change WL _ _ _ _ _ (w.alloc (.cells vv 61))
  generalize w.alloc (.cells vv 61) = w1 at *
  obtain ⟨b4, hb4⟩ : ∃ z, Keep (z = w.heap.size) := ⟨_, ⟨rfl⟩⟩
  rw [← hb4.out] at H4 ⊢
  have HS1 := Keep.mk (HS.out.below b_b4.out)
  have HR1 := Keep.mk (HR.out.below b_b4.out)
  have HM1 : Keep (w1.heap[mb]? = some (.map #[] 0)) := ⟨by rw [b_b4.out.block mb (Array.getElem?_eq_some_iff.1 HM.out).1]; exact HM.out⟩
  clear HS HR HM
  simp only [Act.put, List.setIfInBounds_toArray, List.set_cons_zero, List.set_cons_succ]
  refine WL.val (by kernel_rfl) (.slice none 0 0) (by go_simp) ?_
  simp only [Act.put, List.setIfInBounds_toArray, List.set_cons_zero, List.set_cons_succ]
  refine WL.nil ?_
  refine hK1 _ _ ?_
  refine wp_seq_k fun K2 hK2 => ?_
  refine wp_region_held_drew (S := fun wx => wx.cell? ⟨s, 2, none⟩ = some (.map (some mb)) ∧ wx.rangeAt b4 0 (bytesA 32 x.f).toList) (by kernel_rfl) (⟨HS1.out.bl.drew.c 2 rfl, by have h := blk_range H4.out.drew; rw [hvv.out] at h; exact vtx_id h⟩) (fun hHeld => ?_)
  have bd := (Below.refl w1.heap.size w1).drew
  have HS2 := Keep.mk (HS1.out.below bd)
  have HR2 := Keep.mk (HR1.out.below bd)
  have HM2 : Keep (w1.drew.heap[mb]? = some (.map #[] 0)) := ⟨HM1.out⟩
  have H42 := Keep.mk H4.out.drew
  have b2 : Keep (Below w.heap.size w w1.drew) := ⟨b_b4.out.trans (bd.mono b_b4.out.size)⟩
  have Hb4 : Keep (mb ≠ b4) := ⟨fun e => by have h1 := hb4.out; have h2 := HML.out; omega⟩
  clear HS1 HR1 HM1 H4 bd
  generalize w1.drew = w2 at *
  refine wpAnyH_take (i := 0) (oi := ⟨some 12, Op.move (Operand.tmp 0), 23, _, _, none⟩) (v := .pointer (some ⟨s, 0, none⟩)) rfl (by kernel_rfl) (by kernel_rfl) (by kernel_rfl) (fun _ _ _ h => h) (Or.inl ⟨by rfl, fun w hS => by have cS := hS.1; go_simp⟩) hHeld ?_
  simp only [Act.put, List.setIfInBounds_toArray, List.set_cons_zero, List.set_cons_succ]
  refine wpAnyH_take (i := 1) (oi := ⟨some 13, Op.nilCheck (Operand.tmp 12), 0, _, _, none⟩) (v := .pointer (some ⟨s, 0, none⟩)) rfl (by kernel_rfl) (by kernel_rfl) (by kernel_rfl) (fun _ _ _ h => h) (Or.inl ⟨by rfl, fun w hS => by have cS := hS.1; go_simp⟩) hHeld ?_
  simp only [Act.put, List.setIfInBounds_toArray, List.set_cons_zero, List.set_cons_succ]
  refine wpAnyH_take (i := 2) (oi := ⟨some 14, Op.fieldAddr 47 (Operand.tmp 13) 2, 0, _, _, none⟩) (v := .pointer (some ⟨s, 2, none⟩)) rfl (by kernel_rfl) (by kernel_rfl) (by kernel_rfl) (fun _ _ _ h => h) (Or.inl ⟨by rfl, fun w hS => by have cS := hS.1; go_simp⟩) hHeld ?_
  simp only [Act.put, List.setIfInBounds_toArray, List.set_cons_zero, List.set_cons_succ]
  refine wpAnyH_take (i := 3) (oi := ⟨some 15, Op.load 45 (Operand.tmp 14), 45, _, _, none⟩) (v := .map (some mb)) rfl (by kernel_rfl) (by kernel_rfl) (by kernel_rfl) (fun _ _ _ h => h) (Or.inl ⟨by rfl, fun w hS => by have cS := hS.1; go_simp⟩) hHeld ?_
  simp only [Act.put, List.setIfInBounds_toArray, List.set_cons_zero, List.set_cons_succ]
  refine wpAnyH_take (i := 4) (oi := ⟨some 16, Op.fieldAddr 61 (Operand.tmp 4) 0, 0, _, _, none⟩) (v := .pointer (some ⟨b4, 0, none⟩)) rfl (by kernel_rfl) (by kernel_rfl) (by kernel_rfl) (fun _ _ _ h => h) (Or.inl ⟨by rfl, fun w hS => by have cS := hS.1; go_simp⟩) hHeld ?_
  simp only [Act.put, List.setIfInBounds_toArray, List.set_cons_zero, List.set_cons_succ]
  refine wpAnyH_take (i := 5) (oi := ⟨some 17, Op.load 50 (Operand.tmp 16), 50, _, _, none⟩) (v := .agg (bytesA 32 x.f)) rfl (by kernel_rfl) (by kernel_rfl) (by kernel_rfl) (fun _ _ _ h => h) (yieldsIf_ld (by rfl) (Operand.tmp 16) 50 rfl b4 0 rfl (bytesA 32 x.f) _ Tryz.underlying50 rfl (size51E _) fun w hS => hS.2) hHeld ?_
  simp only [Act.put, List.setIfInBounds_toArray, List.set_cons_zero, List.set_cons_succ]
  refine wpAnyH_take (i := 6) (oi := ⟨some 18, Op.move (Operand.tmp 2), 32, _, _, none⟩) (v := .slice (some ad) n c) rfl (by kernel_rfl) (by kernel_rfl) (by kernel_rfl) (fun _ _ _ h => h) (Or.inl ⟨by rfl, fun w hS => by have cS := hS.1; go_simp⟩) hHeld ?_
  simp only [Act.put, List.setIfInBounds_toArray, List.set_cons_zero, List.set_cons_succ]
  refine wpAnyH_ready (rs := [7]) (by kernel_rfl) (by simp) ?_
  refine AllReadyH.cons (o := ⟨some 19, Op.call { callee := Callee.value (Operand.func 39), args := #[Operand.tmp 18], argTypes := #[32] }, 32, _, _, none⟩) rfl (fun K hK => ?_) AllReadyH.nil
  rw [if_pos (by rfl)]
  refine wp_callF 39 _ _ rfl Tryz.in39 #[.slice (some ad) n c] (by simp [Act.eval]) (fun vz wz => ∃ v, vz = v ∧ Below w2.heap.size w2 wz ∧ (Own wz v l ∧ ∀ k, v.ownBlock = some k → w2.heap.size ≤ k) ∧ ∃ ua un uc, v = .slice ua un uc) ?_ ?_
  · refine (clo_some w2 ad n c l HR2 HL).mono ?_
    rintro e wz ⟨v, rfl, k1, k2, k3⟩
    exact ⟨_, rfl, v, rfl, k3, ⟨k1, k2⟩, Nd_sl k1⟩
  rintro vz w3 ⟨u, rfl, k1, k1b, ua, un, uc, rfl⟩
  have b3 := Keep.mk k1
  have HO3 := Keep.mk k1b
  clear k1 k1b
  have HS3 := Keep.mk (HS2.out.below b3.out)
  have HM3 : Keep (w3.heap[mb]? = some (.map #[] 0)) := ⟨by rw [b3.out.block mb (Array.getElem?_eq_some_iff.1 HM2.out).1]; exact HM2.out⟩
  have H43 := Keep.mk (H42.out.below b3.out H42.out.lt)
  refine hK _ _ (⟨HS3.out.bl.c 2 rfl, by have h := blk_range H43.out; rw [hvv.out] at h; exact vtx_id h⟩) fun hHa => ?_
  clear hK
  simp only [Act.put, List.setIfInBounds_toArray, List.set_cons_zero, List.set_cons_succ]
  refine wpAnyH_ready (rs := [8]) (by kernel_rfl) (by simp) ?_
  refine AllReadyH.cons (o := ⟨none, Op.mapUpdate 45 (Operand.tmp 15) (Operand.tmp 17) (Operand.tmp 19), 0, _, _, none⟩) rfl (fun K hK => ?_) AllReadyH.nil
  rw [if_pos (by rfl)]
  refine wp_upd46 (.tmp 15) (.tmp 17) (.tmp 19) rfl (.map (some mb)) (.agg (bytesA 32 x.f)) (.slice ua un uc) rfl rfl rfl _ (upd46 HM3.out x (.slice ua un uc)) ?_
  have g4 : Keep (Grown w3 { w3 with heap := w3.heap.setIfInBounds mb (.map #[⟨.agg (bytesA 32 x.f), .slice ua un uc, 0⟩] 1) } fun k => k = mb) := ⟨grown_block HM3.out _⟩
  have HM4 : Keep (({ w3 with heap := w3.heap.setIfInBounds mb (.map #[⟨.agg (bytesA 32 x.f), .slice ua un uc, 0⟩] 1) } : World).heap[mb]? = some (.map #[⟨.agg (bytesA 32 x.f), .slice ua un uc, 0⟩] 1)) := ⟨by simp [(Array.getElem?_eq_some_iff.1 HM3.out).1]⟩
  generalize ({ w3 with heap := w3.heap.setIfInBounds mb (.map #[⟨.agg (bytesA 32 x.f), .slice ua un uc, 0⟩] 1) } : World) = w4 at *
  have HB4' : Keep (MB w4 mb x l w.heap.size) := ⟨⟨_, HM4.out, Own.grown HO3.out.1 g4.out fun k hk e => by have h1 := HO3.out.2 k hk; have h2 := HML.out; have h3 := b2.out.size; omega, fun k hk => Nat.le_trans b2.out.size (HO3.out.2 k hk)⟩⟩
  have HS4 : Keep (ShAt w4 s d mb g Av) := ⟨⟨g4.out.blk HS3.out.bl HS3.out.ns.2.2, ⟨_, _, HM4.out⟩, HS3.out.dg.grown g4.out (fun k e e2 => HS3.out.ns.2.1 (e ▸ e2)) (fun k _ e => by rw [e]; exact HS3.out.av.2) (fun _ _ e => e) HS3.out.dg.av (fun k e => Nat.lt_of_lt_of_le (HS3.out.dg.lt k e) g4.out.size), HS3.out.ns, HS3.out.av⟩⟩
  have H44 := Keep.mk (g4.out.blk H43.out fun e => Hb4.out (e.symm))
  refine hK _ _ (⟨HS4.out.bl.c 2 rfl, by have h := blk_range H44.out; rw [hvv.out] at h; exact vtx_id h⟩) fun hHb => ?_
  clear hK
  simp only [Act.put, List.setIfInBounds_toArray, List.set_cons_zero, List.set_cons_succ]
  refine wpAnyH_done (by kernel_rfl) ?_ _
  refine hK2 _ _ ?_
  refine wp_seq_k fun K3 hK3 => ?_
  refine wp_region_held_drew (S := fun wx => wx.cell? ⟨s, 1, none⟩ = some (.pointer (some ⟨d, 0, none⟩)) ∧ Blk wx b4 61 vv) (by kernel_rfl) (⟨HS4.out.bl.drew.c 1 rfl, H44.out.drew⟩) (fun hHeld => ?_)
  have bd := (Below.refl w4.heap.size w4).drew
  have HS5 := Keep.mk (HS4.out.below bd)
  have H45 := Keep.mk H44.out.drew
  have HB5' : Keep (MB w4.drew mb x l w.heap.size) := ⟨HB4'.out.below (Below.refl w4.heap.size w4).drew⟩
  have g5 : Keep (Grown w w4.drew fun k => k = mb) := ⟨((Grown.below (S := fun k => k = mb) (b2.out.trans (b3.out.mono b2.out.size))).trans g4.out).drew⟩
  clear HS4 H44 bd g4 b2 b3
  generalize w4.drew = w5 at *
  refine wpAnyH_take (i := 0) (oi := ⟨some 21, Op.move (Operand.tmp 0), 23, _, _, none⟩) (v := .pointer (some ⟨s, 0, none⟩)) rfl (by kernel_rfl) (by kernel_rfl) (by kernel_rfl) (fun _ _ _ h => h) (Or.inl ⟨by rfl, fun w hS => by have cS := hS.1; go_simp⟩) hHeld ?_
  simp only [Act.put, List.setIfInBounds_toArray, List.set_cons_zero, List.set_cons_succ]
  refine wpAnyH_take (i := 1) (oi := ⟨some 22, Op.nilCheck (Operand.tmp 21), 0, _, _, none⟩) (v := .pointer (some ⟨s, 0, none⟩)) rfl (by kernel_rfl) (by kernel_rfl) (by kernel_rfl) (fun _ _ _ h => h) (Or.inl ⟨by rfl, fun w hS => by have cS := hS.1; go_simp⟩) hHeld ?_
  simp only [Act.put, List.setIfInBounds_toArray, List.set_cons_zero, List.set_cons_succ]
  refine wpAnyH_take (i := 2) (oi := ⟨some 23, Op.fieldAddr 47 (Operand.tmp 22) 1, 0, _, _, none⟩) (v := .pointer (some ⟨s, 1, none⟩)) rfl (by kernel_rfl) (by kernel_rfl) (by kernel_rfl) (fun _ _ _ h => h) (Or.inl ⟨by rfl, fun w hS => by have cS := hS.1; go_simp⟩) hHeld ?_
  simp only [Act.put, List.setIfInBounds_toArray, List.set_cons_zero, List.set_cons_succ]
  refine wpAnyH_take (i := 3) (oi := ⟨some 24, Op.load 41 (Operand.tmp 23), 41, _, _, none⟩) (v := .pointer (some ⟨d, 0, none⟩)) rfl (by kernel_rfl) (by kernel_rfl) (by kernel_rfl) (fun _ _ _ h => h) (Or.inl ⟨by rfl, fun w hS => by have cS := hS.1; go_simp⟩) hHeld ?_
  simp only [Act.put, List.setIfInBounds_toArray, List.set_cons_zero, List.set_cons_succ]
  refine wpAnyH_take (i := 4) (oi := ⟨some 25, Op.load 61 (Operand.tmp 4), 61, _, _, none⟩) (v := .agg vv) rfl (by kernel_rfl) (by kernel_rfl) (by kernel_rfl) (fun _ _ _ h => h) (yieldsIf_ld (by rfl) (Operand.tmp 4) 61 rfl b4 0 rfl vv _ Tryz.underlying61 rfl (by rw [hvv.out]; exact sizeV62 _ _ _) fun w hS => blk_range hS.2) hHeld ?_
  simp only [Act.put, List.setIfInBounds_toArray, List.set_cons_zero, List.set_cons_succ]
  refine wpAnyH_ready (rs := [5]) (by kernel_rfl) (by simp) ?_
  refine AllReadyH.cons (o := ⟨some 26, Op.call { callee := Callee.value (Operand.func 62), args := #[Operand.tmp 24, Operand.tmp 25], argTypes := #[41, 61] }, 127, _, _, none⟩) rfl (fun K hK => ?_) AllReadyH.nil
  rw [if_pos (by rfl)]
  refine wp_callF 62 _ _ rfl Tryz.in62 #[ptr d, .agg vv] (by simp [Act.eval]) (fun vz wz => vz = .tuple #[.int .i64 2, .slice none 0 0, .int .i64 0] ∧ ∃ g', Ste w5 wz Av d g g' ∧ g'.held = [⟨x, 1, []⟩] ∧ g'.wait = [] ∧ g'.queue = [] ∧ g'.order = [x]) ?_ ?_
  · refine ((gadd_vv d x bp vv hvv.out g Av w5 HS5.out.dg Hg.out.1 Hg.out.2.1 Hg.out.2.2.1 Hg.out.2.2.2.1 Hg.out.2.2.2.2)).mono ?_
    rintro e wz ⟨rfl, k1⟩
    exact ⟨_, rfl, rfl, k1⟩
  rintro vz w6 ⟨rfl, g', k1, k2⟩
  have HT := Keep.mk k1
  have HG' := Keep.mk k2
  have HB6' : Keep (MB w6 mb x l w.heap.size) := ⟨HB5'.out.keep HT.out.grown HS5.out.ns.2.1 fun k e => HDl.out k e⟩
  clear k1 k2
  have HS6 : Keep (ShAt w6 s d mb g' (fun k => Av k ∨ DgS d g' k)) := by
    have nm : ∀ k, k < w5.heap.size → ¬ DgS d g k → ¬ DgS d g' k := fun k hk e e2 => by
      rcases HT.out.sub k e2 with h | h
      · exact e h
      · omega
    have ls := HS5.out.bl.lt
    obtain ⟨es, ck, hm⟩ := HS5.out.mp
    have lm := (Array.getElem?_eq_some_iff.1 hm).1
    exact ⟨⟨HT.out.grown.blk HS5.out.bl HS5.out.ns.1, ⟨es, ck, by rw [HT.out.grown.block mb lm HS5.out.ns.2.1]; exact hm⟩, HT.out.at', ⟨nm s ls HS5.out.ns.1, nm mb lm HS5.out.ns.2.1, HS5.out.ns.2.2⟩, ⟨.inl HS5.out.av.1, .inl HS5.out.av.2⟩⟩⟩
  have H46 := Keep.mk (HT.out.grown.blk H45.out fun e => by have h1 := HDl.out b4 e; have h2 := hb4.out; omega)
  refine hK _ _ (⟨HS6.out.bl.c 1 rfl, H46.out⟩) fun hHa => ?_
  clear hK
  simp only [Act.put, List.setIfInBounds_toArray, List.set_cons_zero, List.set_cons_succ]
  refine wpAnyH_take (i := 6) (oi := ⟨some 20, Op.move (Operand.tmp 26), 127, _, _, none⟩) (v := .tuple #[.int .i64 2, .slice none 0 0, .int .i64 0]) rfl (by kernel_rfl) (by kernel_rfl) (by kernel_rfl) (fun _ _ _ h => h) (Or.inl ⟨by rfl, fun w hS => by have cS := hS.1; go_simp⟩) hHa ?_
  simp only [Act.put, List.setIfInBounds_toArray, List.set_cons_zero, List.set_cons_succ]
  refine wpAnyH_take (i := 7) (oi := ⟨some 27, Op.extract (Operand.tmp 20) 0, 3, _, _, none⟩) (v := .int .i64 2) rfl (by kernel_rfl) (by kernel_rfl) (by kernel_rfl) (fun _ _ _ h => h) (Or.inl ⟨by rfl, fun w hS => by have cS := hS.1; go_simp⟩) hHa ?_
  simp only [Act.put, List.setIfInBounds_toArray, List.set_cons_zero, List.set_cons_succ]
  refine wpAnyH_take (i := 8) (oi := ⟨some 28, Op.extract (Operand.tmp 20) 1, 25, _, _, none⟩) (v := .slice none 0 0) rfl (by kernel_rfl) (by kernel_rfl) (by kernel_rfl) (fun _ _ _ h => h) (Or.inl ⟨by rfl, fun w hS => by have cS := hS.1; go_simp⟩) hHa ?_
  simp only [Act.put, List.setIfInBounds_toArray, List.set_cons_zero, List.set_cons_succ]
  refine wpAnyH_take (i := 9) (oi := ⟨some 29, Op.extract (Operand.tmp 20) 2, 42, _, _, none⟩) (v := .int .i64 0) rfl (by kernel_rfl) (by kernel_rfl) (by kernel_rfl) (fun _ _ _ h => h) (Or.inl ⟨by rfl, fun w hS => by have cS := hS.1; go_simp⟩) hHa ?_
  simp only [Act.put, List.setIfInBounds_toArray, List.set_cons_zero, List.set_cons_succ]
  refine wpAnyH_take (i := 10) (oi := ⟨some 7, Op.assign (Operand.tmp 27), 3, _, _, none⟩) (v := .int .i64 2) rfl (by kernel_rfl) (by kernel_rfl) (by kernel_rfl) (fun _ _ _ h => h) (Or.inl ⟨by rfl, fun w hS => by have cS := hS.1; go_simp⟩) hHa ?_
  simp only [Act.put, List.setIfInBounds_toArray, List.set_cons_zero, List.set_cons_succ]
  refine wpAnyH_take (i := 11) (oi := ⟨some 8, Op.assign (Operand.tmp 28), 25, _, _, none⟩) (v := .slice none 0 0) rfl (by kernel_rfl) (by kernel_rfl) (by kernel_rfl) (fun _ _ _ h => h) (Or.inl ⟨by rfl, fun w hS => by have cS := hS.1; go_simp⟩) hHa ?_
  simp only [Act.put, List.setIfInBounds_toArray, List.set_cons_zero, List.set_cons_succ]
  refine wpAnyH_take (i := 12) (oi := ⟨some 9, Op.assign (Operand.tmp 29), 42, _, _, none⟩) (v := .int .i64 0) rfl (by kernel_rfl) (by kernel_rfl) (by kernel_rfl) (fun _ _ _ h => h) (Or.inl ⟨by rfl, fun w hS => by have cS := hS.1; go_simp⟩) hHa ?_
  simp only [Act.put, List.setIfInBounds_toArray, List.set_cons_zero, List.set_cons_succ]
  refine wpAnyH_done (by kernel_rfl) ?_ _
  refine hK3 _ _ ?_
  refine wp_seq_k fun K4 hK4 => ?_
  refine wp_seq_k fun K5 hK5 => ?_
  refine wp_region_list (WL.out ?_)
  refine WL.val (by kernel_rfl) (.slice none 0 0) (by go_simp) ?_
  simp only [Act.put, List.setIfInBounds_toArray, List.set_cons_zero, List.set_cons_succ]
  refine WL.val (by kernel_rfl) (.int .i64 0) (by go_simp) ?_
  simp only [Act.put, List.setIfInBounds_toArray, List.set_cons_zero, List.set_cons_succ]
  refine WL.val (by kernel_rfl) (.int .i64 0) (by go_simp) ?_
  simp only [Act.put, List.setIfInBounds_toArray, List.set_cons_zero, List.set_cons_succ]
  refine WL.nil ?_
  refine hK5 _ _ ?_
  refine wp_block ?_
  refine wp_loop_rounds 1 ?_
  rw [rounds_succ]
  refine wp_seq_k fun K6 hK6 => ?_
  refine wp_region_list (WL.out ?_)
  refine WL.val (by kernel_rfl) (.bool false) (by go_simp) ?_
  simp only [Act.put, List.setIfInBounds_toArray, List.set_cons_zero, List.set_cons_succ]
  refine WL.nil ?_
  refine hK6 _ _ ?_
  refine wp_seq_k fun K7 hK7 => ?_
  refine wp_cond_false rfl ?_
  refine wp_exit ?_
  refine hK4 _ _ ?_
  refine wp_seq_k fun K8 hK8 => ?_
  refine wp_region_list (WL.out ?_)
  refine WL.val (by kernel_rfl) (.slice none 0 0) (by go_simp) ?_
  simp only [Act.put, List.setIfInBounds_toArray, List.set_cons_zero, List.set_cons_succ]
  refine WL.val (by kernel_rfl) (.slice none 0 0) (by go_simp) ?_
  simp only [Act.put, List.setIfInBounds_toArray, List.set_cons_zero, List.set_cons_succ]
  refine WL.nil ?_
  refine hK8 _ _ ?_
  refine wp_ret ?_
  try simp only [Exit.inBlock, Exit.then]
  go_ret
  exact ⟨rfl, g', _, HS6.out, HG'.out.1, HG'.out.2.1, HG'.out.2.2.1, ⟨HG'.out.2.2.2, HB6'.out⟩, fun k e => (HT.out.sub k e).imp id (Nat.le_trans g5.out.size), (g5.out.mono fun k _ e => .inl e).trans (HT.out.grown.mono fun k _ e => .inr e)⟩

end Go.Proofs.YtdkhjeofjhcceaaGreatDoor
