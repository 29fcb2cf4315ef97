import Derived.Test.YtkjjlfpghhefcabK04
import Derived.Test.YtkjjlfpghhefcabK02
import Derived.Test.YtkjjlfpghhefcabK03
import Derived.Deep.DeepAppendWide
import Derived.ProofKit
import Derived.OpenShut
import Derived.ShutString
import Derived.ChangeOld
import Derived.Below
import Derived.SizedLaws
import Derived.Deep.Slices
import Derived.Deep.Strs
namespace Go.Proofs.Ytkjjlfpghhefcab
open Go.RowKit
set_option linter.unusedSimpArgs false
set_option linter.unusedVariables false

theorem wpList_bldK {P : Program} {ops : Array Oper} {rest : List Oper} {o : Oper} {a : Act} {w : World} {Q : Exit → Act → World → Prop} (hg : o.guard = none) (t : TypeId) (parts : Array (Nat × Operand)) (ho : o.op = .build t parts)
    (vs : List (Nat × Value)) (hv : (parts.map fun (i, x) => (i, a.eval x)).toList = vs) (cells : Array Value) (hf : P.built t vs = some cells) (h : wpList P ops Q rest (a.put o.dst (.agg cells)) w) : wpList P ops Q (o :: rest) a w :=
  wpList_plain hg fun _ hK => wp_bldG t parts ho cells (by rw [hv]; exact hf) (hK _ _ h)
theorem wpList_partK {P : Program} {ops : Array Oper} {rest : List Oper} {o : Oper} {a : Act} {w : World} {Q : Exit → Act → World → Prop} (hw : Region.wanted o (yielded ops a.tmps) = true) (ty : TypeId) (x y : Operand) (ho : o.op = .store ty x y)
    (g off : Nat) (cells : Array Value) (hx : a.eval x = .pointer (some ⟨g, off, none⟩)) (hy : a.eval y = .agg cells)
    (t : TypeId) (cur : Array Value) (hg : Blk w g t cur) (hi : (P.info? ty).map (·.size) = some cells.size) (hfit : off + cells.size ≤ cur.size) (h1 : cells.all (·.oneCell') = true)
    (new : Array Value) (hn : (cur.toList.take off ++ cells.toList ++ cur.toList.drop (off + cells.size)).toArray = new)
    (h : wpList P ops Q rest (a.put o.dst undef) (w.setRow g new)) : wpList P ops Q (o :: rest) a w := (WL.part hw ty x y ho g off cells hx hy t cur hg hi hfit h1 new hn ⟨h⟩).out
theorem wpList_appK {ops : Array Oper} {rest : List Oper} {o : Oper} {a : Act} {w : World} {Q : Exit → Act → World → Prop} (hw : Region.wanted o (yielded ops a.tmps) = true) (s x : Operand)
    (ho : o.op = .call { callee := .builtin .append, args := #[s, x], argTypes := #[36, 36] }) (v : Value) (l : List OpV) (g : Nat) (y : OpV)
    (hs : a.eval s = v) (hx : a.eval x = .slice (some ⟨g, 0, none⟩) 1 1) (hown : OwnO w v l) (hg : Blk w g 59 (opA y)) (hb : l.length ≤ 1000000000000)
    (h : ∀ v' w', OwnO w' v' (l ++ [y]) → (Grown w w' fun k => v.ownBlock = some k) → Moved w v v' → wpList Try.prog ops Q rest (a.put o.dst v') w') : wpList Try.prog ops Q (o :: rest) a w :=
  (WL.appO hw s x ho v l g y hs hx hown hg hb fun v' w' h1 h2 h3 => ⟨h v' w' h1 h2 h3⟩).out
theorem wpList_bsK {P : Program} {ops : Array Oper} {rest : List Oper} {o : Oper} {a : Act} {w : World} {Q : Exit → Act → World → Prop} (hg : o.guard = none) (t : TypeId) (n : Nat) (parts : Array (Nat × Operand)) (ho : o.op = .buildSlice t n parts)
    (vs : Array (Nat × Value)) (hv : (parts.map fun (i, x) => (i, a.eval x)) = vs) (v : Value) (w' : World) (hrun : (Instr.buildSlice t n vs).run P w = .ok v w') (h : wpList P ops Q rest (a.put o.dst v) w') : wpList P ops Q (o :: rest) a w := by
  refine wpList_plain hg fun K hK => ?_
  unfold Oper.wp execOp
  simp only [ho, hv, Sem.run_bind, hrun, Result.andThen_ok]
  exact hK _ _ h

set_option maxRecDepth 8000 in
set_option maxHeartbeats 8000000 in
theorem getKeeps_any (v : Value) (l : List Int) (w : World) (hR : RowAt w v l) (hBy : Byts l) (hl : l.length ≤ 140737488351232) (hlt : ∀ k, v.ownBlock = some k → k < w.heap.size) :
    Calls Try.prog 29 #[v] w fun e w' => e = .returned (.bool true) ∧ Below w.heap.size w w' := by
  have HR0 := Keep.mk hR
  have HBy := Keep.mk hBy
  have Hl := Keep.mk hl
  have HLT : Keep (∀ k, v.ownBlock = some k → k < w.heap.size) := ⟨hlt⟩
  obtain ⟨va, vc, hv⟩ := row_form hR
  have Hv := Keep.mk hv
  obtain ⟨N, hN⟩ : ∃ N, Keep (N = l.length) := ⟨_, ⟨rfl⟩⟩
  rw [← hN.out] at Hv
  rw [hv, ← hN.out]
  clear hR hBy hl hlt hv
  obtain ⟨st, hst⟩ : ∃ st, Keep (st = strOfNums l) := ⟨_, ⟨rfl⟩⟩
  have Hlst : Keep (lst st = l) := ⟨by rw [hst.out]; exact lst_nums HBy.out⟩
  have Hsz : Keep (st.size ≤ 140737488355328) := ⟨by rw [← lst_len, Hlst.out]; have := Hl.out; omega⟩
  have HNI : Keep (∀ wx, RowAt wx v l → Calls Try.prog 7 #[.slice va N vc] wx fun e w' => e = .returned (ptr wx.heap.size) ∧ w' = wx.alloc (.cells #[.string st, .int .i64 0, .pointer none] 68)) := ⟨fun wx h => by have := newIn_any v l wx h; rwa [Hv.out, ← hst.out] at this⟩
  go_enter Try.func29, Try.ntmps29
  go_wp2_with fail
  refine (HNI.out w HR0.out).mono ?_
  rintro e w1 ⟨rfl, hw1⟩
  have HI1 : Keep (InAt w1 w.heap.size st 0 none) := ⟨by rw [hw1]; exact ⟨Blk.new w 68 _, Nat.zero_le _⟩⟩
  have HB1 : Keep (Below w.heap.size w w1) := ⟨by rw [hw1]; exact below_new w _⟩
  have HR1 := Keep.mk (HR0.out.below HB1.out)
  obtain ⟨p, hp⟩ : ∃ p, Keep (p = w.heap.size) := ⟨_, ⟨rfl⟩⟩
  rw [← hp.out] at HI1 ⊢
  clear hw1
  go_wp2_with fail
  refine (HNI.out w1 HR1.out).mono ?_
  rintro e w2 ⟨rfl, hw2⟩
  have hbw : Below w1.heap.size w1 w2 := by rw [hw2]; exact below_new w1 _
  have HJ2 : Keep (InAt w2 w1.heap.size st 0 none) := ⟨by rw [hw2]; exact ⟨Blk.new w1 68 _, Nat.zero_le _⟩⟩
  have HI2 : Keep (InAt w2 p st 0 none) := ⟨⟨HI1.out.blk.below hbw HI1.out.blk.lt, HI1.out.le⟩⟩
  have HB2 := Keep.mk (HB1.out.trans (hbw.mono HB1.out.size))
  have hpq := HI1.out.blk.lt
  obtain ⟨q, hq⟩ : ∃ q, Keep (q = w1.heap.size) := ⟨_, ⟨rfl⟩⟩
  rw [← hq.out] at HJ2 hpq ⊢
  have HpW : Keep (w.heap.size ≤ p ∧ p < q) := ⟨by rw [hp.out] at *; exact ⟨Nat.le_refl _, hpq⟩⟩
  clear hw2 hbw HI1 HB1 HR1 HNI hpq
  obtain ⟨R, hRR⟩ : ∃ R, Keep (R = getL l 0) := ⟨_, ⟨rfl⟩⟩
  have HG1 := Keep.mk (get_any p st 0 w2 HI2.out Hsz.out)
  rw [Hlst.out, ← hRR.out] at HG1
  obtain ⟨e5, q5, m5⟩ := R
  go_wp2_with fail
  refine HG1.out.mono ?_
  rintro e w3 ⟨vx, er, rfl, hg, hc⟩
  have HJ3 : Keep (InAt w3 q st 0 none) := ⟨⟨hg.blk HJ2.out.blk (fun e => by have := HpW.out; omega), HJ2.out.le⟩⟩
  have HB3 := Keep.mk (HB2.out.trans (hg.to_below (fun k hk e => by have := HpW.out; omega) HB2.out.size))
  have HG2 := Keep.mk (get_any q st 0 w3 HJ3.out Hsz.out)
  rw [Hlst.out, ← hRR.out] at HG2
  have hs23 := hg.size
  clear hg HG1 HI2 HJ2
  dsimp only at hc
  rcases hc with ⟨e1, rfl, h4, h5, h6, h7, h8⟩ | ⟨e1, rfl, q3, hq3, rfl, hbad⟩
  · subst e1
    have HX := Keep.mk h4
    have HXf := Keep.mk h5
    have H8 := Keep.mk h8
    clear h4 h5 h6 h7 h8
    obtain ⟨xa, xc, rfl⟩ := HX.out.sl
    go_wp2_with fail
    refine HG2.out.mono ?_
    rintro e w4 ⟨vy, er2, rfl, hg, hc⟩
    have HB4 := Keep.mk (HB3.out.trans (hg.to_below (fun k hk e => by have := HpW.out; omega) HB3.out.size))
    have HqW : Keep (w.heap.size ≤ q) := ⟨by have := HpW.out; omega⟩
    dsimp only at hc
    rcases hc with ⟨-, rfl, h4, h5, h6, h7, h8⟩ | ⟨e1, -⟩
    rotate_left
    · exact absurd rfl e1
    have HY := Keep.mk h4
    have HYf := Keep.mk h5
    have hxq : (Value.slice xa m5.length xc).ownBlock ≠ some q := HX.out.ne HJ3.out.blk (by decide)
    have HX4 := Keep.mk (HX.out.grown hg (fun k hk e => hxq (by rw [hk, e])))
    have HAxy : Keep (∀ k, (Value.slice xa m5.length xc).ownBlock = some k → vy.ownBlock ≠ some k) := ⟨fun k h1 h2 => by have := HX.out.lt k h1; have := HYf.out k h2; omega⟩
    have HXw : Keep (∀ k, (Value.slice xa m5.length xc).ownBlock = some k → w.heap.size ≤ k) := ⟨fun k h => by have := HXf.out k h; have := HB2.out.size; omega⟩
    clear h4 h5 h6 h7 h8 hg HX HXf HJ3 HB3 HG2 hxq
    obtain ⟨ya, yc, rfl⟩ := HY.out.sl
    rename_i K1 hK1 K2 hK2
    refine hK2 _ _ ?_
    refine WL.out ?_
    refine WL.val (by kernel_rfl) (.tuple #[.slice ya m5.length yc, .nilIface]) (by go_simp) ?_
    simp only [Act.put, List.setIfInBounds_toArray, List.set_cons_zero, List.set_cons_succ]
    refine WL.val (by kernel_rfl) (.slice ya m5.length yc) (by go_simp) ?_
    simp only [Act.put, List.setIfInBounds_toArray, List.set_cons_zero, List.set_cons_succ]
    refine WL.val (by kernel_rfl) (.nilIface) (by go_simp) ?_
    simp only [Act.put, List.setIfInBounds_toArray, List.set_cons_zero, List.set_cons_succ]
    refine WL.val (by kernel_rfl) (.slice ya m5.length yc) (by go_simp) ?_
    simp only [Act.put, List.setIfInBounds_toArray, List.set_cons_zero, List.set_cons_succ]
    refine WL.val (by kernel_rfl) (.nilIface) (by go_simp) ?_
    simp only [Act.put, List.setIfInBounds_toArray, List.set_cons_zero, List.set_cons_succ]
    refine WL.nil ?_
    refine hK1 _ _ ?_
    clear hK1 hK2 K1 K2
    refine wp_seq_k fun K3 hK3 => ?_
    refine wp_region_list (WL.out ?_)
    refine WL.val (by kernel_rfl) (.slice va N vc) (by go_simp) ?_
    simp only [Act.put, List.setIfInBounds_toArray, List.set_cons_zero, List.set_cons_succ]
    refine WL.bld (by kernel_rfl) 29 _ rfl [(0, .slice va N vc)] (by simp [Act.eval]) _ (ri_built va N vc) ?_
    simp only [Act.put, List.setIfInBounds_toArray, List.set_cons_zero, List.set_cons_succ]
    refine WL.box (by kernel_rfl) 29 _ rfl _ rfl ?_
    simp only [Act.put, List.setIfInBounds_toArray, List.set_cons_zero, List.set_cons_succ]
    have HF5 : Keep (RfAt (w4.alloc (.cells #[.slice va N vc, .int .i64 0, .int .i64 0, .int .i64 0] 29)) w4.heap.size (.slice va N vc) 0 0 0) := ⟨Blk.new w4 29 _⟩
    have hb5 := below_new w4 (.cells #[.slice va N vc, .int .i64 0, .int .i64 0, .int .i64 0] 29)
    have HB5 := Keep.mk (HB4.out.trans (hb5.mono HB4.out.size))
    have HxW : Keep (w.heap.size ≤ w4.heap.size) := ⟨HB4.out.size⟩
    have HX5 := Keep.mk (HX4.out.below hb5)
    have HY5 := Keep.mk (HY.out.below hb5)
    have HYw : Keep (∀ k, (Value.slice ya m5.length yc).ownBlock = some k → w.heap.size ≤ k) := ⟨fun k h => by have := HYf.out k h; have := HB2.out.size; omega⟩
    have HXn : Keep ((Value.slice xa m5.length xc).ownBlock ≠ some w4.heap.size ∧ (Value.slice ya m5.length yc).ownBlock ≠ some w4.heap.size) := ⟨⟨fun e => by have := HX4.out.lt _ e; omega, fun e => by have := HY.out.lt _ e; omega⟩⟩
    clear HX4 HY HYf
    generalize w4.alloc (.cells #[.slice va N vc, .int .i64 0, .int .i64 0, .int .i64 0] 29) = w5 at *
    generalize w4.heap.size = x at *
    clear hb5 HB4
    refine WL.callF (by kernel_rfl) 11 _ _ rfl oka_in11 #[ptr x] (by simp [Act.eval]) ?_
    refine (rget_any x (.slice va N vc) l 0 w5 HF5.out (fun wx hx => by rw [← Hv.out]; exact (HR0.out.below HB5.out).grown hx (fun k hk _ e => by have := HLT.out k hk; have := HxW.out; omega)) (Nat.zero_le _) (by have := Hl.out; omega) HBy.out).mono ?_
    rintro e w6 h3
    rw [← hRR.out] at h3
    obtain ⟨vt, b2, rfl, hE2, hf2, hg2, hok2, hbad2⟩ := h3
    refine ⟨_, rfl, ?_⟩
    dsimp only at *
    have HB6 : Keep (Below w.heap.size w w6) := ⟨HB5.out.trans (hg2.to_below (fun k hk e => by have := HxW.out; omega) HB5.out.size)⟩
    have HT6 := Keep.mk (hok2 rfl).1
    have HX6 := Keep.mk (HX5.out.grown hg2 (fun k hk e => HXn.out.1 (by rw [hk, e])))
    have HY6 := Keep.mk (HY5.out.grown hg2 (fun k hk e => HXn.out.2 (by rw [hk, e])))
    have HTn : Keep (∀ k, vt.ownBlock = some k → (Value.slice xa m5.length xc).ownBlock ≠ some k) := ⟨fun k h1 h2 => by have := (hok2 rfl).2 k h1; have := HX5.out.lt k h2; omega⟩
    clear HX5 HY5
    obtain ⟨ta, tc, rfl⟩ := HT6.out.sl
    clear hE2 hf2 hg2 hok2 hbad2 HF5 HB5
    simp only [Act.put, List.setIfInBounds_toArray, List.set_cons_zero, List.set_cons_succ]
    refine WL.val (by kernel_rfl) (.tuple #[.slice ta m5.length tc, .agg (erA 0 b2)]) (by go_simp) ?_
    simp only [Act.put, List.setIfInBounds_toArray, List.set_cons_zero, List.set_cons_succ]
    refine WL.val (by kernel_rfl) (.slice ta m5.length tc) (by go_simp) ?_
    simp only [Act.put, List.setIfInBounds_toArray, List.set_cons_zero, List.set_cons_succ]
    refine WL.val (by kernel_rfl) (.agg (erA 0 b2)) (by go_simp) ?_
    simp only [Act.put, List.setIfInBounds_toArray, List.set_cons_zero, List.set_cons_succ]
    refine WL.new (by kernel_rfl) 27 rfl _ Try.new27E ?_
    simp only [Act.put, List.setIfInBounds_toArray, List.set_cons_zero, List.set_cons_succ]
    refine WL.val (by kernel_rfl) (.slice ta m5.length tc) (by go_simp) ?_
    simp only [Act.put, List.setIfInBounds_toArray, List.set_cons_zero, List.set_cons_succ]
    refine WL.storeR (by kernel_rfl) 27 (.tmp 10) (.tmp 39) rfl w6.heap.size (erA 0 b2) rfl rfl 27 (erA 0 0) (Blk.new w6 27 _) (Try.size27B _ _) (erA_sizes _ _ _ _) (erA_one _ _) ?_
    have bq := below_setRow (below_new w6 (.cells (erA 0 0) 27)) (Nat.le_refl w6.heap.size) (erA 0 b2)
    have HZ := Keep.mk ((Blk.new w6 27 (erA 0 0)).setRow (erA 0 b2))
    generalize (w6.alloc (.cells (erA 0 0) 27)).setRow w6.heap.size (erA 0 b2) = w7 at *
    have HB7 := Keep.mk (HB6.out.trans (bq.mono HB6.out.size))
    have HX7 := Keep.mk (HX6.out.below bq)
    have HY7 := Keep.mk (HY6.out.below bq)
    have HT7 := Keep.mk (HT6.out.below bq)
    clear HX6 HY6 HT6
    generalize w6.heap.size = g10 at *
    clear bq HB6
    simp only [Act.put]
    refine WL.nil ?_
    refine hK3 _ _ ?_
    clear hK3 K3
    have HC : Keep (∀ wx, Below w7.heap.size w7 wx → wx.cell? ⟨g10, 0, none⟩ = some (.int .i64 0)) := ⟨fun wx hx => (HZ.out.below hx HZ.out.lt).c 0 (erA_0 _ _)⟩
    refine wp_seq_k fun K4 hK4 => ?_
    refine wp_seq_k fun K5 hK5 => ?_
    refine wp_region_held_drew (S := fun wx => Below w7.heap.size w7 wx) (by kernel_rfl) ((Below.refl _ _).drew) (fun hHeld => ?_)
    refine wpAnyH_take (i := 0) (oi := ⟨some 40, Op.move (Operand.tmp 6), 31, _, _, none⟩) (v := .nilIface) rfl (by kernel_rfl) (by kernel_rfl) (by kernel_rfl) (fun _ _ _ h => h) (Or.inl ⟨by rfl, fun w hS => by go_simp⟩) hHeld ?_
    simp only [Act.put, List.setIfInBounds_toArray, List.set_cons_zero, List.set_cons_succ]
    refine wpAnyH_take (i := 1) (oi := ⟨some 41, Op.binOp BinOp.eql 31 (Operand.tmp 40) (Operand.const Value.nilIface) 31, 4, _, _, none⟩) (v := .bool true) rfl (by kernel_rfl) (by kernel_rfl) (by kernel_rfl) (fun _ _ _ h => h) (Or.inl ⟨by rfl, fun w hS => by go_simp⟩) hHeld ?_
    simp only [Act.put, List.setIfInBounds_toArray, List.set_cons_zero, List.set_cons_succ]
    refine wpAnyH_take (i := 2) (oi := ⟨some 42, Op.fieldAddr 27 (Operand.tmp 10) 0, 0, _, _, none⟩) (v := .pointer (some ⟨g10, 0, none⟩)) rfl (by kernel_rfl) (by kernel_rfl) (by kernel_rfl) (fun _ _ _ h => h) (Or.inl ⟨by rfl, fun w hS => by go_simp⟩) hHeld ?_
    simp only [Act.put, List.setIfInBounds_toArray, List.set_cons_zero, List.set_cons_succ]
    refine wpAnyH_take (i := 3) (oi := ⟨some 43, Op.load 3 (Operand.tmp 42), 3, _, _, none⟩) (v := .int .i64 0) rfl (by kernel_rfl) (by kernel_rfl) (by kernel_rfl) (fun _ _ _ h => h) (Or.inl ⟨by rfl, fun w hS => by have h1 := HC.out _ hS; go_simp⟩) hHeld ?_
    simp only [Act.put, List.setIfInBounds_toArray, List.set_cons_zero, List.set_cons_succ]
    refine wpAnyH_take (i := 4) (oi := ⟨some 44, Op.binOp BinOp.eql 3 (Operand.tmp 43) (Operand.const (Value.int IntKind.i64 0)) 3, 4, _, _, none⟩) (v := .bool true) rfl (by kernel_rfl) (by kernel_rfl) (by kernel_rfl) (fun _ _ _ h => h) (Or.inl ⟨by rfl, fun w hS => by have h1 := HC.out _ hS; go_simp⟩) hHeld ?_
    simp only [Act.put, List.setIfInBounds_toArray, List.set_cons_zero, List.set_cons_succ]
    refine wpAnyH_take (i := 5) (oi := ⟨some 45, Op.binOp BinOp.neq 4 (Operand.tmp 41) (Operand.tmp 44) 4, 4, _, _, none⟩) (v := .bool false) rfl (by kernel_rfl) (by kernel_rfl) (by kernel_rfl) (fun _ _ _ h => h) (Or.inl ⟨by rfl, fun w hS => by go_simp⟩) hHeld ?_
    simp only [Act.put, List.setIfInBounds_toArray, List.set_cons_zero, List.set_cons_succ]
    refine wpAnyH_take (i := 6) (oi := ⟨some 46, Op.move (Operand.tmp 45), 4, _, _, none⟩) (v := .bool false) rfl (by kernel_rfl) (by kernel_rfl) (by kernel_rfl) (fun _ _ _ h => h) (Or.inl ⟨by rfl, fun w hS => by go_simp⟩) hHeld ?_
    simp only [Act.put, List.setIfInBounds_toArray, List.set_cons_zero, List.set_cons_succ]
    refine wpAnyH_take (i := 7) (oi := ⟨some 47, Op.move (Operand.tmp 8), 31, _, _, some (6, false)⟩) (v := .nilIface) rfl (by kernel_rfl) (by kernel_rfl) (by kernel_rfl) (fun _ _ _ h => h) (Or.inl ⟨by rfl, fun w hS => by go_simp⟩) hHeld ?_
    simp only [Act.put, List.setIfInBounds_toArray, List.set_cons_zero, List.set_cons_succ]
    refine wpAnyH_take (i := 8) (oi := ⟨some 48, Op.binOp BinOp.eql 31 (Operand.tmp 47) (Operand.const Value.nilIface) 31, 4, _, _, some (6, false)⟩) (v := .bool true) rfl (by kernel_rfl) (by kernel_rfl) (by kernel_rfl) (fun _ _ _ h => h) (Or.inl ⟨by rfl, fun w hS => by go_simp⟩) hHeld ?_
    simp only [Act.put, List.setIfInBounds_toArray, List.set_cons_zero, List.set_cons_succ]
    refine wpAnyH_take (i := 9) (oi := ⟨some 49, Op.fieldAddr 27 (Operand.tmp 10) 0, 0, _, _, some (6, false)⟩) (v := .pointer (some ⟨g10, 0, none⟩)) rfl (by kernel_rfl) (by kernel_rfl) (by kernel_rfl) (fun _ _ _ h => h) (Or.inl ⟨by rfl, fun w hS => by go_simp⟩) hHeld ?_
    simp only [Act.put, List.setIfInBounds_toArray, List.set_cons_zero, List.set_cons_succ]
    refine wpAnyH_take (i := 10) (oi := ⟨some 50, Op.load 3 (Operand.tmp 49), 3, _, _, some (6, false)⟩) (v := .int .i64 0) rfl (by kernel_rfl) (by kernel_rfl) (by kernel_rfl) (fun _ _ _ h => h) (Or.inl ⟨by rfl, fun w hS => by have h1 := HC.out _ hS; go_simp⟩) hHeld ?_
    simp only [Act.put, List.setIfInBounds_toArray, List.set_cons_zero, List.set_cons_succ]
    refine wpAnyH_take (i := 11) (oi := ⟨some 51, Op.binOp BinOp.eql 3 (Operand.tmp 50) (Operand.const (Value.int IntKind.i64 0)) 3, 4, _, _, some (6, false)⟩) (v := .bool true) rfl (by kernel_rfl) (by kernel_rfl) (by kernel_rfl) (fun _ _ _ h => h) (Or.inl ⟨by rfl, fun w hS => by have h1 := HC.out _ hS; go_simp⟩) hHeld ?_
    simp only [Act.put, List.setIfInBounds_toArray, List.set_cons_zero, List.set_cons_succ]
    refine wpAnyH_take (i := 12) (oi := ⟨some 52, Op.binOp BinOp.neq 4 (Operand.tmp 48) (Operand.tmp 51) 4, 4, _, _, some (6, false)⟩) (v := .bool false) rfl (by kernel_rfl) (by kernel_rfl) (by kernel_rfl) (fun _ _ _ h => h) (Or.inl ⟨by rfl, fun w hS => by go_simp⟩) hHeld ?_
    simp only [Act.put, List.setIfInBounds_toArray, List.set_cons_zero, List.set_cons_succ]
    refine wpAnyH_take (i := 13) (oi := ⟨some 53, Op.pick (Operand.tmp 46) (Operand.const (Value.bool true)) (Operand.tmp 52), 4, _, _, none⟩) (v := .bool false) rfl (by kernel_rfl) (by kernel_rfl) (by kernel_rfl) (fun _ _ _ h => h) (Or.inl ⟨by rfl, fun w hS => by go_simp⟩) hHeld ?_
    simp only [Act.put, List.setIfInBounds_toArray, List.set_cons_zero, List.set_cons_succ]
    refine wpAnyH_take (i := 14) (oi := ⟨some 54, Op.move (Operand.tmp 53), 4, _, _, none⟩) (v := .bool false) rfl (by kernel_rfl) (by kernel_rfl) (by kernel_rfl) (fun _ _ _ h => h) (Or.inl ⟨by rfl, fun w hS => by go_simp⟩) hHeld ?_
    simp only [Act.put, List.setIfInBounds_toArray, List.set_cons_zero, List.set_cons_succ]
    refine wpAnyH_take (i := 15) (oi := ⟨some 55, Op.move (Operand.tmp 5), 36, _, _, some (14, false)⟩) (v := .slice xa m5.length xc) rfl (by kernel_rfl) (by kernel_rfl) (by kernel_rfl) (fun _ _ _ h => h) (Or.inl ⟨by rfl, fun w hS => by go_simp⟩) hHeld ?_
    simp only [Act.put, List.setIfInBounds_toArray, List.set_cons_zero, List.set_cons_succ]
    refine wpAnyH_take (i := 16) (oi := ⟨some 56, Op.move (Operand.tmp 9), 36, _, _, some (14, false)⟩) (v := .slice ta m5.length tc) rfl (by kernel_rfl) (by kernel_rfl) (by kernel_rfl) (fun _ _ _ h => h) (Or.inl ⟨by rfl, fun w hS => by go_simp⟩) hHeld ?_
    simp only [Act.put, List.setIfInBounds_toArray, List.set_cons_zero, List.set_cons_succ]
    refine wpAnyH_ready (rs := [17]) (by kernel_rfl) (by simp) ?_
    refine AllReadyH.cons (o := ⟨some 57, Op.call { callee := Callee.value (Operand.func 13), args := #[Operand.tmp 55, Operand.tmp 56], argTypes := #[36, 36] }, 4, _, _, some (14, false)⟩) rfl (fun K hK => ?_) (AllReadyH.nil)
    all_goals rw [if_pos (by rfl)]
    refine wp_callF 13 _ _ rfl oka_in13 #[.slice xa m5.length xc, .slice ta m5.length tc] (by simp [Act.eval]) (fun vz wz => vz = .bool true ∧ Below w7.heap.size w7 wz) ?_ ?_
    · refine (sameList_any _ _ m5 w7.drew (HX7.out.below (Below.refl _ _).drew).ops (HT7.out.below (Below.refl _ _).drew).ops (by have := H8.out; omega)).mono ?_
      rintro e wz ⟨rfl, hz⟩
      exact ⟨_, rfl, rfl, ((Below.refl w7.heap.size w7).drew).trans hz⟩
    rintro vz w8 ⟨rfl, hb8⟩
    refine hK.out _ _ hb8 fun hHeld => ?_
    clear hK hHeld
    simp only [Act.put, List.setIfInBounds_toArray, List.set_cons_zero, List.set_cons_succ]
    refine wpAnyH_take (i := 18) (oi := ⟨some 58, Op.unOp UnOp.not 4 (Operand.tmp 57), 4, _, _, some (14, false)⟩) (v := .bool false) rfl (by kernel_rfl) (by kernel_rfl) (by kernel_rfl) (fun _ _ _ h => h) (Or.inl ⟨by rfl, fun w hS => by go_simp⟩) hb8 ?_
    simp only [Act.put, List.setIfInBounds_toArray, List.set_cons_zero, List.set_cons_succ]
    refine wpAnyH_take (i := 19) (oi := ⟨some 59, Op.pick (Operand.tmp 54) (Operand.const (Value.bool true)) (Operand.tmp 58), 4, _, _, none⟩) (v := .bool false) rfl (by kernel_rfl) (by kernel_rfl) (by kernel_rfl) (fun _ _ _ h => h) (Or.inl ⟨by rfl, fun w hS => by go_simp⟩) hb8 ?_
    simp only [Act.put, List.setIfInBounds_toArray, List.set_cons_zero, List.set_cons_succ]
    refine wpAnyH_done (by kernel_rfl) ?_ _
    refine hK5 _ _ ?_
    clear hK5 K5
    refine wp_cond_false rfl ?_
    refine wp_skip ?_
    refine hK4 _ _ ?_
    clear hK4 K4 HC HZ
    have HB8 := Keep.mk (HB7.out.trans (hb8.mono HB7.out.size))
    have HX8 := Keep.mk (HX7.out.below hb8)
    have HY8 := Keep.mk (HY7.out.below hb8)
    have HT8 := Keep.mk (HT7.out.below hb8)
    clear HX7 HY7 HT7
    clear hb8 HB7
    obtain ⟨M, hM⟩ : ∃ M, Keep (M = m5.length) := ⟨_, ⟨rfl⟩⟩
    have hMb : (M : Int) ≤ 1024 := by have := H8.out; have := hM.out; omega
    rw [← hM.out] at HX8 HY8 HT8 HAxy HXw HTn ⊢
    have HTXa : Keep (∀ k, (Value.slice xa M xc).ownBlock = some k → (Value.slice ta M tc).ownBlock ≠ some k) := ⟨fun k h1 h2 => HTn.out k h2 h1⟩
    go_wp2_with fail
    go_loopw [11] (fun i wr => ∃ t : Nat, t ≤ M ∧ i = .int .i64 t ∧ (∃ mx : List OpV, mx.length = M ∧ OwnO wr (.slice xa M xc) mx) ∧ OwnO wr (.slice ya M yc) m5 ∧ OwnO wr (.slice ta M tc) m5 ∧ Below w.heap.size w wr) (fun i _ => M - (intOf i).toNat)
    case atStart => exact ⟨0, by omega, rfl, ⟨m5, hM.out.symm, HX8.out⟩, HY8.out, HT8.out, HB8.out⟩
    case round =>
      clear HX8 HY8 HT8 HB8
      obtain ⟨t, ht, rfl, ⟨mx, hmx, hX⟩, hY, hT, hB⟩ := hrel
      by_cases hlt : t < M
      · have hlt' : (t : Int) < M := by omega
        obtain ⟨gx, rfl⟩ : ∃ gx, xa = some ⟨gx, 0, none⟩ := by
          rcases hX.form with ⟨e, e2⟩ | ⟨g, cap, cur, e, _⟩
          · rw [e2] at hmx; simp at hmx; omega
          · injection e with e1; exact ⟨g, e1⟩
        obtain ⟨cur, new, hb1, hb2, hb3, hO⟩ := hX.put (t := t) (by rw [hmx]; exact hlt) (opK (-9) t)
        obtain ⟨A, hA⟩ : ∃ A, Keep (A = opA (opK (-9) t)) := ⟨_, ⟨rfl⟩⟩
        have HBl : Keep (Try.prog.built 59 [(0, .int .i64 (-9)), (3, .int .i64 t)] = some A) := ⟨by rw [hA.out]; exact opK_built _ _⟩
        have HAi : Keep ((Try.prog.info? 59).map (·.size) = some A.size) := ⟨by rw [hA.out]; exact Try.size59B _⟩
        have HAo : Keep (A.all (·.oneCell') = true) := ⟨by rw [hA.out]; exact opA_one _⟩
        rw [← hA.out] at hb2 hb3
        have HYn := Keep.mk (hY.grown (Grown.setRow wr gx new (S := fun k => k = gx) fun _ => rfl) (fun k hk e => HAxy.out gx rfl (by rw [← e]; exact hk)))
        have HTnn := Keep.mk (hT.grown (Grown.setRow wr gx new (S := fun k => k = gx) fun _ => rfl) (fun k hk e => HTXa.out gx rfl (by rw [← e]; exact hk)))
        have HBn := Keep.mk (below_setRow hB (HXw.out gx rfl) new)
        have HXn2 : Keep (OwnO (wr.setRow gx new) (.slice (some ⟨gx, 0, none⟩) M xc) (mx.set t (opK (-9) t))) := ⟨hO⟩
        have Hb1 := Keep.mk hb1
        have Hb2 := Keep.mk hb2
        have Hb3 := Keep.mk hb3
        have Hmx := Keep.mk hmx
        clear hO hX hY hT hB hb1 hb2 hb3 hmx
        go_wp2_with (first | (refine wpList_bldK rfl 59 #[(0, .const (.int .i64 (-9))), (3, .tmp 68)] rfl [(0, .int .i64 (-9)), (3, .int .i64 t)] (by simp [Act.eval]) A HBl.out ?_) | (refine wpList_partK (by rfl) 59 (.tmp 70) (.tmp 69) rfl gx (t * 37) A rfl rfl 59 cur Hb1.out HAi.out Hb2.out HAo.out new Hb3.out ?_; refine Hid.out ?_))
        refine hid_in ?_
        generalize wr.setRow gx new = wn at *
        go_wp2
        go_roundw
        case rel => exact ⟨t + 1, by omega, by go_num, ⟨_, by rw [List.length_set]; exact Hmx.out, HXn2.out⟩, HYn.out, HTnn.out, HBn.out⟩
        case measure => simp only [intOf]; omega
      · obtain rfl : M = t := by omega
        have HX := Keep.mk hX
        have HY := Keep.mk hY
        have HT := Keep.mk hT
        have HB := Keep.mk hB
        have Hmx := Keep.mk hmx
        clear hX hY hT hB hmx ht hlt
        go_wp2_with fail
        obtain ⟨vX, hvX⟩ : ∃ vX, Keep (vX = Value.slice xa M xc) := ⟨_, ⟨rfl⟩⟩
        rw [← hvX.out] at HX HAxy HXw HTXa ⊢
        go_loopw [5, 12] (fun s5 i wr => ∃ (t : Nat) (u : Value), t ≤ 20 ∧ u = s5 ∧ i = .int .i64 t ∧ (∃ mx : List OpV, mx.length = M + t ∧ OwnO wr u mx) ∧ OwnO wr (.slice ya M yc) m5 ∧ OwnO wr (.slice ta M tc) m5 ∧ Below w.heap.size w wr ∧ (∀ k, u.ownBlock = some k → (Value.slice ya M yc).ownBlock ≠ some k ∧ (Value.slice ta M tc).ownBlock ≠ some k ∧ w.heap.size ≤ k)) (fun _ i _ => 20 - (intOf i).toNat)
        case atStart => exact ⟨0, _, by omega, rfl, rfl, ⟨mx, Hmx.out, HX.out⟩, HY.out, HT.out, HB.out, fun k hk => ⟨HAxy.out k hk, HTXa.out k hk, HXw.out k hk⟩⟩
        case round =>
          clear HX HY HT HB Hmx
          obtain ⟨t, u, ht, rfl, rfl, ⟨mx, hmx, hX⟩, hY, hT, hB, hU⟩ := hrel
          by_cases hlt : t < 20
          · have hlt' : (t : Int) < 20 := by omega
            obtain ⟨A, hA⟩ : ∃ A, Keep (A = opA (opK (-8) 0)) := ⟨_, ⟨rfl⟩⟩
            have HBl : Keep (Try.prog.built 59 [(0, .int .i64 (-8))] = some A) := ⟨by rw [hA.out]; exact opK_built1 _⟩
            have HBs : Keep ((Instr.buildSlice 36 1 #[(0, .agg A)]).run Try.prog wr = .ok (.slice (some ⟨wr.heap.size, 0, none⟩) 1 1) (wr.alloc (.cells A 59))) := ⟨by rw [hA.out]; exact opK_bs _ wr⟩
            have Hg1 : Keep (Blk (wr.alloc (.cells A 59)) wr.heap.size 59 (opA (opK (-8) 0))) := ⟨by rw [← hA.out]; exact Blk.new wr 59 A⟩
            have HX1 := Keep.mk (hX.below (below_new wr (.cells A 59)))
            have HY1 := Keep.mk (hY.below (below_new wr (.cells A 59)))
            have HT1 := Keep.mk (hT.below (below_new wr (.cells A 59)))
            have HB1 := Keep.mk (hB.alloc hB.size (.cells A 59))
            have HUn := Keep.mk hU
            have Hmx := Keep.mk hmx
            clear hX hY hT hB hU hmx
            go_wp2_with (first | (at_builtin; refine wpList_appK (by rfl) (.tmp 75) (.tmp 77) rfl u mx wr.heap.size (opK (-8) 0) rfl rfl HX1.out Hg1.out (by rw [Hmx.out]; omega) ?_; intro v' w' hO hg hm; refine Hid.out ?_) | (refine wpList_bldK rfl 59 #[(0, .const (.int .i64 (-8)))] rfl [(0, .int .i64 (-8))] (by simp [Act.eval]) A HBl.out ?_) | (refine wpList_bsK rfl 36 1 #[(0, .tmp 76)] rfl #[(0, .agg A)] (by simp [Act.eval, Act.put]) _ _ HBs.out ?_))
            refine hid_in ?_
            have HY2 := Keep.mk (HY1.out.grown hg (fun k hk e => (HUn.out k e).1 hk))
            have HT2 := Keep.mk (HT1.out.grown hg (fun k hk e => (HUn.out k e).2.1 hk))
            have HB2 := Keep.mk (HB1.out.trans (hg.to_below (fun k hk e => by have := (HUn.out k e).2.2; omega) HB1.out.size))
            have HU2 : Keep (∀ k, v'.ownBlock = some k → (Value.slice ya M yc).ownBlock ≠ some k ∧ (Value.slice ta M tc).ownBlock ≠ some k ∧ w.heap.size ≤ k) := ⟨fun k hk => by
              rcases hm with e | ⟨k2, e, hk2⟩
              · exact HUn.out k (by rw [← e]; exact hk)
              · rw [e] at hk; injection hk with hk; subst hk
                exact ⟨fun e2 => by have := HY1.out.lt _ e2; omega, fun e2 => by have := HT1.out.lt _ e2; omega, Nat.le_trans HB1.out.size hk2⟩⟩
            have HX2 := Keep.mk hO
            clear hO hg hm HX1 HY1 HT1 HB1 HUn Hg1 HBs
            go_wp2
            go_roundw
            case rel => exact ⟨t + 1, _, by omega, rfl, by go_num, ⟨_, by rw [List.length_append, Hmx.out]; rfl, HX2.out⟩, HY2.out, HT2.out, HB2.out, HU2.out⟩
            case measure => simp only [intOf]; omega
          · obtain rfl : t = 20 := by omega
            have HY := Keep.mk hY
            have HT := Keep.mk hT
            have HB := Keep.mk hB
            clear hX hY hT hB hU hmx
            go_wp2_with fail
            refine (sameList_any _ _ m5 _ HY.out.ops HT.out.ops (by have := H8.out; omega)).mono ?_
            rintro e w14 ⟨rfl, hb⟩
            have HBz := Keep.mk (HB.out.trans (hb.mono HB.out.size))
            clear hb
            go_wp2
            go_ret
            exact ⟨rfl, HBz.out⟩
  · have Hne := Keep.mk e1
    clear e1 hbad
    unfold err
    go_wp2_with fail
    refine HG2.out.mono ?_
    rintro e w4 ⟨vy, er2, rfl, hg, hc⟩
    have HB4 := Keep.mk (HB3.out.trans (hg.to_below (fun k hk e => by have := HpW.out; omega) HB3.out.size))
    have HqW : Keep (w.heap.size ≤ q) := ⟨by have := HpW.out; omega⟩
    dsimp only at hc
    rcases hc with ⟨e1, -⟩ | ⟨-, rfl, q4, hq4, rfl, hbad⟩
    · exact absurd e1 Hne.out
    clear hg hbad HJ3 HB3 HG2
    unfold err
    rename_i K1 hK1 K2 hK2
    refine hK2 _ _ ?_
    refine WL.out ?_
    refine WL.val (by kernel_rfl) (.tuple #[.slice none 0 0, .iface 66 (ptr q4)]) (by go_simp) ?_
    simp only [Act.put, List.setIfInBounds_toArray, List.set_cons_zero, List.set_cons_succ]
    refine WL.val (by kernel_rfl) (.slice none 0 0) (by go_simp) ?_
    simp only [Act.put, List.setIfInBounds_toArray, List.set_cons_zero, List.set_cons_succ]
    refine WL.val (by kernel_rfl) (.iface 66 (ptr q4)) (by go_simp) ?_
    simp only [Act.put, List.setIfInBounds_toArray, List.set_cons_zero, List.set_cons_succ]
    refine WL.val (by kernel_rfl) (.slice none 0 0) (by go_simp) ?_
    simp only [Act.put, List.setIfInBounds_toArray, List.set_cons_zero, List.set_cons_succ]
    refine WL.val (by kernel_rfl) (.iface 66 (ptr q4)) (by go_simp) ?_
    simp only [Act.put, List.setIfInBounds_toArray, List.set_cons_zero, List.set_cons_succ]
    refine WL.nil ?_
    refine hK1 _ _ ?_
    clear hK1 hK2 K1 K2
    refine wp_seq_k fun K3 hK3 => ?_
    refine wp_region_list (WL.out ?_)
    refine WL.val (by kernel_rfl) (.slice va N vc) (by go_simp) ?_
    simp only [Act.put, List.setIfInBounds_toArray, List.set_cons_zero, List.set_cons_succ]
    refine WL.bld (by kernel_rfl) 29 _ rfl [(0, .slice va N vc)] (by simp [Act.eval]) _ (ri_built va N vc) ?_
    simp only [Act.put, List.setIfInBounds_toArray, List.set_cons_zero, List.set_cons_succ]
    refine WL.box (by kernel_rfl) 29 _ rfl _ rfl ?_
    simp only [Act.put, List.setIfInBounds_toArray, List.set_cons_zero, List.set_cons_succ]
    have HF5 : Keep (RfAt (w4.alloc (.cells #[.slice va N vc, .int .i64 0, .int .i64 0, .int .i64 0] 29)) w4.heap.size (.slice va N vc) 0 0 0) := ⟨Blk.new w4 29 _⟩
    have hb5 := below_new w4 (.cells #[.slice va N vc, .int .i64 0, .int .i64 0, .int .i64 0] 29)
    have HB5 := Keep.mk (HB4.out.trans (hb5.mono HB4.out.size))
    have HxW : Keep (w.heap.size ≤ w4.heap.size) := ⟨HB4.out.size⟩
    generalize w4.alloc (.cells #[.slice va N vc, .int .i64 0, .int .i64 0, .int .i64 0] 29) = w5 at *
    generalize w4.heap.size = x at *
    clear hb5 HB4
    refine WL.callF (by kernel_rfl) 11 _ _ rfl oka_in11 #[ptr x] (by simp [Act.eval]) ?_
    refine (rget_any x (.slice va N vc) l 0 w5 HF5.out (fun wx hx => by rw [← Hv.out]; exact (HR0.out.below HB5.out).grown hx (fun k hk _ e => by have := HLT.out k hk; have := HxW.out; omega)) (Nat.zero_le _) (by have := Hl.out; omega) HBy.out).mono ?_
    rintro e w6 h3
    rw [← hRR.out] at h3
    obtain ⟨vt, b2, rfl, hE2, hf2, hg2, hok2, hbad2⟩ := h3
    refine ⟨_, rfl, ?_⟩
    dsimp only at *
    have HB6 : Keep (Below w.heap.size w w6) := ⟨HB5.out.trans (hg2.to_below (fun k hk e => by have := HxW.out; omega) HB5.out.size)⟩
    obtain rfl := hbad2 Hne.out
    clear hE2 hf2 hg2 hok2 hbad2 HF5 HB5
    simp only [Act.put, List.setIfInBounds_toArray, List.set_cons_zero, List.set_cons_succ]
    refine WL.val (by kernel_rfl) (.tuple #[.slice none 0 0, .agg (erA e5 b2)]) (by go_simp) ?_
    simp only [Act.put, List.setIfInBounds_toArray, List.set_cons_zero, List.set_cons_succ]
    refine WL.val (by kernel_rfl) (.slice none 0 0) (by go_simp) ?_
    simp only [Act.put, List.setIfInBounds_toArray, List.set_cons_zero, List.set_cons_succ]
    refine WL.val (by kernel_rfl) (.agg (erA e5 b2)) (by go_simp) ?_
    simp only [Act.put, List.setIfInBounds_toArray, List.set_cons_zero, List.set_cons_succ]
    refine WL.new (by kernel_rfl) 27 rfl _ Try.new27E ?_
    simp only [Act.put, List.setIfInBounds_toArray, List.set_cons_zero, List.set_cons_succ]
    refine WL.val (by kernel_rfl) (.slice none 0 0) (by go_simp) ?_
    simp only [Act.put, List.setIfInBounds_toArray, List.set_cons_zero, List.set_cons_succ]
    refine WL.storeR (by kernel_rfl) 27 (.tmp 10) (.tmp 39) rfl w6.heap.size (erA e5 b2) rfl rfl 27 (erA 0 0) (Blk.new w6 27 _) (Try.size27B _ _) (erA_sizes _ _ _ _) (erA_one _ _) ?_
    have bq := below_setRow (below_new w6 (.cells (erA 0 0) 27)) (Nat.le_refl w6.heap.size) (erA e5 b2)
    have HZ := Keep.mk ((Blk.new w6 27 (erA 0 0)).setRow (erA e5 b2))
    generalize (w6.alloc (.cells (erA 0 0) 27)).setRow w6.heap.size (erA e5 b2) = w7 at *
    have HB7 := Keep.mk (HB6.out.trans (bq.mono HB6.out.size))
    generalize w6.heap.size = g10 at *
    clear bq HB6
    simp only [Act.put]
    refine WL.nil ?_
    refine hK3 _ _ ?_
    clear hK3 K3
    have HC : Keep (∀ wx, Below w7.heap.size w7 wx → wx.cell? ⟨g10, 0, none⟩ = some (.int .i64 e5)) := ⟨fun wx hx => (HZ.out.below hx HZ.out.lt).c 0 (erA_0 _ _)⟩
    refine wp_seq_k fun K4 hK4 => ?_
    refine wp_seq_k fun K5 hK5 => ?_
    refine wp_region_held_drew (S := fun wx => Below w7.heap.size w7 wx) (by kernel_rfl) ((Below.refl _ _).drew) (fun hHeld => ?_)
    refine wpAnyH_take (i := 0) (oi := ⟨some 40, Op.move (Operand.tmp 6), 31, _, _, none⟩) (v := .iface 66 (ptr q3)) rfl (by kernel_rfl) (by kernel_rfl) (by kernel_rfl) (fun _ _ _ h => h) (Or.inl ⟨by rfl, fun w hS => by go_simp⟩) hHeld ?_
    simp only [Act.put, List.setIfInBounds_toArray, List.set_cons_zero, List.set_cons_succ]
    refine wpAnyH_take (i := 1) (oi := ⟨some 41, Op.binOp BinOp.eql 31 (Operand.tmp 40) (Operand.const Value.nilIface) 31, 4, _, _, none⟩) (v := .bool false) rfl (by kernel_rfl) (by kernel_rfl) (by kernel_rfl) (fun _ _ _ h => h) (Or.inl ⟨by rfl, fun w hS => by go_simp⟩) hHeld ?_
    simp only [Act.put, List.setIfInBounds_toArray, List.set_cons_zero, List.set_cons_succ]
    refine wpAnyH_take (i := 2) (oi := ⟨some 42, Op.fieldAddr 27 (Operand.tmp 10) 0, 0, _, _, none⟩) (v := .pointer (some ⟨g10, 0, none⟩)) rfl (by kernel_rfl) (by kernel_rfl) (by kernel_rfl) (fun _ _ _ h => h) (Or.inl ⟨by rfl, fun w hS => by go_simp⟩) hHeld ?_
    simp only [Act.put, List.setIfInBounds_toArray, List.set_cons_zero, List.set_cons_succ]
    refine wpAnyH_take (i := 3) (oi := ⟨some 43, Op.load 3 (Operand.tmp 42), 3, _, _, none⟩) (v := .int .i64 e5) rfl (by kernel_rfl) (by kernel_rfl) (by kernel_rfl) (fun _ _ _ h => h) (Or.inl ⟨by rfl, fun w hS => by have h1 := HC.out _ hS; have hne5 := Hne.out; go_simp⟩) hHeld ?_
    simp only [Act.put, List.setIfInBounds_toArray, List.set_cons_zero, List.set_cons_succ]
    refine wpAnyH_take (i := 4) (oi := ⟨some 44, Op.binOp BinOp.eql 3 (Operand.tmp 43) (Operand.const (Value.int IntKind.i64 0)) 3, 4, _, _, none⟩) (v := .bool false) rfl (by kernel_rfl) (by kernel_rfl) (by kernel_rfl) (fun _ _ _ h => h) (Or.inl ⟨by rfl, fun w hS => by have h1 := HC.out _ hS; have hne5 := Hne.out; go_simp⟩) hHeld ?_
    simp only [Act.put, List.setIfInBounds_toArray, List.set_cons_zero, List.set_cons_succ]
    refine wpAnyH_take (i := 5) (oi := ⟨some 45, Op.binOp BinOp.neq 4 (Operand.tmp 41) (Operand.tmp 44) 4, 4, _, _, none⟩) (v := .bool false) rfl (by kernel_rfl) (by kernel_rfl) (by kernel_rfl) (fun _ _ _ h => h) (Or.inl ⟨by rfl, fun w hS => by go_simp⟩) hHeld ?_
    simp only [Act.put, List.setIfInBounds_toArray, List.set_cons_zero, List.set_cons_succ]
    refine wpAnyH_take (i := 6) (oi := ⟨some 46, Op.move (Operand.tmp 45), 4, _, _, none⟩) (v := .bool false) rfl (by kernel_rfl) (by kernel_rfl) (by kernel_rfl) (fun _ _ _ h => h) (Or.inl ⟨by rfl, fun w hS => by go_simp⟩) hHeld ?_
    simp only [Act.put, List.setIfInBounds_toArray, List.set_cons_zero, List.set_cons_succ]
    refine wpAnyH_take (i := 7) (oi := ⟨some 47, Op.move (Operand.tmp 8), 31, _, _, some (6, false)⟩) (v := .iface 66 (ptr q4)) rfl (by kernel_rfl) (by kernel_rfl) (by kernel_rfl) (fun _ _ _ h => h) (Or.inl ⟨by rfl, fun w hS => by go_simp⟩) hHeld ?_
    simp only [Act.put, List.setIfInBounds_toArray, List.set_cons_zero, List.set_cons_succ]
    refine wpAnyH_take (i := 8) (oi := ⟨some 48, Op.binOp BinOp.eql 31 (Operand.tmp 47) (Operand.const Value.nilIface) 31, 4, _, _, some (6, false)⟩) (v := .bool false) rfl (by kernel_rfl) (by kernel_rfl) (by kernel_rfl) (fun _ _ _ h => h) (Or.inl ⟨by rfl, fun w hS => by go_simp⟩) hHeld ?_
    simp only [Act.put, List.setIfInBounds_toArray, List.set_cons_zero, List.set_cons_succ]
    refine wpAnyH_take (i := 9) (oi := ⟨some 49, Op.fieldAddr 27 (Operand.tmp 10) 0, 0, _, _, some (6, false)⟩) (v := .pointer (some ⟨g10, 0, none⟩)) rfl (by kernel_rfl) (by kernel_rfl) (by kernel_rfl) (fun _ _ _ h => h) (Or.inl ⟨by rfl, fun w hS => by go_simp⟩) hHeld ?_
    simp only [Act.put, List.setIfInBounds_toArray, List.set_cons_zero, List.set_cons_succ]
    refine wpAnyH_take (i := 10) (oi := ⟨some 50, Op.load 3 (Operand.tmp 49), 3, _, _, some (6, false)⟩) (v := .int .i64 e5) rfl (by kernel_rfl) (by kernel_rfl) (by kernel_rfl) (fun _ _ _ h => h) (Or.inl ⟨by rfl, fun w hS => by have h1 := HC.out _ hS; have hne5 := Hne.out; go_simp⟩) hHeld ?_
    simp only [Act.put, List.setIfInBounds_toArray, List.set_cons_zero, List.set_cons_succ]
    refine wpAnyH_take (i := 11) (oi := ⟨some 51, Op.binOp BinOp.eql 3 (Operand.tmp 50) (Operand.const (Value.int IntKind.i64 0)) 3, 4, _, _, some (6, false)⟩) (v := .bool false) rfl (by kernel_rfl) (by kernel_rfl) (by kernel_rfl) (fun _ _ _ h => h) (Or.inl ⟨by rfl, fun w hS => by have h1 := HC.out _ hS; have hne5 := Hne.out; go_simp⟩) hHeld ?_
    simp only [Act.put, List.setIfInBounds_toArray, List.set_cons_zero, List.set_cons_succ]
    refine wpAnyH_take (i := 12) (oi := ⟨some 52, Op.binOp BinOp.neq 4 (Operand.tmp 48) (Operand.tmp 51) 4, 4, _, _, some (6, false)⟩) (v := .bool false) rfl (by kernel_rfl) (by kernel_rfl) (by kernel_rfl) (fun _ _ _ h => h) (Or.inl ⟨by rfl, fun w hS => by go_simp⟩) hHeld ?_
    simp only [Act.put, List.setIfInBounds_toArray, List.set_cons_zero, List.set_cons_succ]
    refine wpAnyH_take (i := 13) (oi := ⟨some 53, Op.pick (Operand.tmp 46) (Operand.const (Value.bool true)) (Operand.tmp 52), 4, _, _, none⟩) (v := .bool false) rfl (by kernel_rfl) (by kernel_rfl) (by kernel_rfl) (fun _ _ _ h => h) (Or.inl ⟨by rfl, fun w hS => by go_simp⟩) hHeld ?_
    simp only [Act.put, List.setIfInBounds_toArray, List.set_cons_zero, List.set_cons_succ]
    refine wpAnyH_take (i := 14) (oi := ⟨some 54, Op.move (Operand.tmp 53), 4, _, _, none⟩) (v := .bool false) rfl (by kernel_rfl) (by kernel_rfl) (by kernel_rfl) (fun _ _ _ h => h) (Or.inl ⟨by rfl, fun w hS => by go_simp⟩) hHeld ?_
    simp only [Act.put, List.setIfInBounds_toArray, List.set_cons_zero, List.set_cons_succ]
    refine wpAnyH_take (i := 15) (oi := ⟨some 55, Op.move (Operand.tmp 5), 36, _, _, some (14, false)⟩) (v := .slice none 0 0) rfl (by kernel_rfl) (by kernel_rfl) (by kernel_rfl) (fun _ _ _ h => h) (Or.inl ⟨by rfl, fun w hS => by go_simp⟩) hHeld ?_
    simp only [Act.put, List.setIfInBounds_toArray, List.set_cons_zero, List.set_cons_succ]
    refine wpAnyH_take (i := 16) (oi := ⟨some 56, Op.move (Operand.tmp 9), 36, _, _, some (14, false)⟩) (v := .slice none 0 0) rfl (by kernel_rfl) (by kernel_rfl) (by kernel_rfl) (fun _ _ _ h => h) (Or.inl ⟨by rfl, fun w hS => by go_simp⟩) hHeld ?_
    simp only [Act.put, List.setIfInBounds_toArray, List.set_cons_zero, List.set_cons_succ]
    refine wpAnyH_ready (rs := [17]) (by kernel_rfl) (by simp) ?_
    refine AllReadyH.cons (o := ⟨some 57, Op.call { callee := Callee.value (Operand.func 13), args := #[Operand.tmp 55, Operand.tmp 56], argTypes := #[36, 36] }, 4, _, _, some (14, false)⟩) rfl (fun K hK => ?_) (AllReadyH.nil)
    all_goals rw [if_pos (by rfl)]
    refine wp_callF 13 _ _ rfl oka_in13 #[.slice none 0 0, .slice none 0 0] (by simp [Act.eval]) (fun vz wz => vz = .bool true ∧ Below w7.heap.size w7 wz) ?_ ?_
    · refine (sameList_any _ _ [] w7.drew (.inl ⟨none, 0, rfl, rfl⟩) (.inl ⟨none, 0, rfl, rfl⟩) (by simp)).mono ?_
      rintro e wz ⟨rfl, hz⟩
      exact ⟨_, rfl, rfl, ((Below.refl w7.heap.size w7).drew).trans hz⟩
    rintro vz w8 ⟨rfl, hb8⟩
    refine hK.out _ _ hb8 fun hHeld => ?_
    clear hK hHeld
    simp only [Act.put, List.setIfInBounds_toArray, List.set_cons_zero, List.set_cons_succ]
    refine wpAnyH_take (i := 18) (oi := ⟨some 58, Op.unOp UnOp.not 4 (Operand.tmp 57), 4, _, _, some (14, false)⟩) (v := .bool false) rfl (by kernel_rfl) (by kernel_rfl) (by kernel_rfl) (fun _ _ _ h => h) (Or.inl ⟨by rfl, fun w hS => by go_simp⟩) hb8 ?_
    simp only [Act.put, List.setIfInBounds_toArray, List.set_cons_zero, List.set_cons_succ]
    refine wpAnyH_take (i := 19) (oi := ⟨some 59, Op.pick (Operand.tmp 54) (Operand.const (Value.bool true)) (Operand.tmp 58), 4, _, _, none⟩) (v := .bool false) rfl (by kernel_rfl) (by kernel_rfl) (by kernel_rfl) (fun _ _ _ h => h) (Or.inl ⟨by rfl, fun w hS => by go_simp⟩) hb8 ?_
    simp only [Act.put, List.setIfInBounds_toArray, List.set_cons_zero, List.set_cons_succ]
    refine wpAnyH_done (by kernel_rfl) ?_ _
    refine hK5 _ _ ?_
    clear hK5 K5
    refine wp_cond_false rfl ?_
    refine wp_skip ?_
    refine hK4 _ _ ?_
    clear hK4 K4 HC HZ
    have HB8 := Keep.mk (HB7.out.trans (hb8.mono HB7.out.size))
    clear hb8 HB7
    go_wp2_with fail
    go_loop [11] (fun i => i = .int .i64 0) (fun _ => 0)
    case atStart => exact rfl
    case round =>
      obtain rfl := hrel
      go_wp2_with fail
      go_loopw [5, 12] (fun s5 i wr => ∃ (t : Nat) (u : Value), t ≤ 20 ∧ u = s5 ∧ i = .int .i64 t ∧ (∃ mx : List OpV, mx.length = t ∧ OwnO wr u mx) ∧ Below w.heap.size w wr ∧ (∀ k, u.ownBlock = some k → w.heap.size ≤ k)) (fun _ i _ => 20 - (intOf i).toNat)
      case atStart => exact ⟨0, _, by omega, rfl, rfl, ⟨[], rfl, OwnO.nil _⟩, HB8.out, fun k hk => by simp [Value.ownBlock] at hk⟩
      case round =>
        clear HB8
        obtain ⟨t, u, ht, rfl, rfl, ⟨mx, hmx, hX⟩, hB, hU⟩ := hrel
        by_cases hlt : t < 20
        · have hlt' : (t : Int) < 20 := by omega
          obtain ⟨A, hA⟩ : ∃ A, Keep (A = opA (opK (-8) 0)) := ⟨_, ⟨rfl⟩⟩
          have HBl : Keep (Try.prog.built 59 [(0, .int .i64 (-8))] = some A) := ⟨by rw [hA.out]; exact opK_built1 _⟩
          have HBs : Keep ((Instr.buildSlice 36 1 #[(0, .agg A)]).run Try.prog wr = .ok (.slice (some ⟨wr.heap.size, 0, none⟩) 1 1) (wr.alloc (.cells A 59))) := ⟨by rw [hA.out]; exact opK_bs _ wr⟩
          have Hg1 : Keep (Blk (wr.alloc (.cells A 59)) wr.heap.size 59 (opA (opK (-8) 0))) := ⟨by rw [← hA.out]; exact Blk.new wr 59 A⟩
          have HX1 := Keep.mk (hX.below (below_new wr (.cells A 59)))
          have HB1 := Keep.mk (hB.alloc hB.size (.cells A 59))
          have HUn := Keep.mk hU
          have Hmx := Keep.mk hmx
          clear hX hB hU hmx
          go_wp2_with (first | (at_builtin; refine wpList_appK (by rfl) (.tmp 75) (.tmp 77) rfl u mx wr.heap.size (opK (-8) 0) rfl rfl HX1.out Hg1.out (by rw [Hmx.out]; omega) ?_; intro v' w' hO hg hm; refine Hid.out ?_) | (refine wpList_bldK rfl 59 #[(0, .const (.int .i64 (-8)))] rfl [(0, .int .i64 (-8))] (by simp [Act.eval]) A HBl.out ?_) | (refine wpList_bsK rfl 36 1 #[(0, .tmp 76)] rfl #[(0, .agg A)] (by simp [Act.eval, Act.put]) _ _ HBs.out ?_))
          refine hid_in ?_
          have HB2 := Keep.mk (HB1.out.trans (hg.to_below (fun k hk e => by have := HUn.out k e; omega) HB1.out.size))
          have HU2 : Keep (∀ k, v'.ownBlock = some k → w.heap.size ≤ k) := ⟨fun k hk => by
            rcases hm with e | ⟨k2, e, hk2⟩
            · exact HUn.out k (by rw [← e]; exact hk)
            · rw [e] at hk; injection hk with hk; subst hk
              exact Nat.le_trans HB1.out.size hk2⟩
          have HX2 := Keep.mk hO
          clear hO hg hm HX1 HB1 HUn Hg1 HBs
          go_wp2
          go_roundw
          case rel => exact ⟨t + 1, _, by omega, rfl, by go_num, ⟨_, by rw [List.length_append, Hmx.out]; rfl, HX2.out⟩, HB2.out, HU2.out⟩
          case measure => simp only [intOf]; omega
        · obtain rfl : t = 20 := by omega
          have HB := Keep.mk hB
          clear hX hB hU hmx
          go_wp2_with fail
          refine (sameList_any _ _ [] _ (.inl ⟨none, 0, rfl, rfl⟩) (.inl ⟨none, 0, rfl, rfl⟩) (by simp)).mono ?_
          rintro e w14 ⟨rfl, hb⟩
          have HBz := Keep.mk (HB.out.trans (hb.mono HB.out.size))
          clear hb
          go_wp2
          go_ret
          exact ⟨rfl, HBz.out⟩

theorem flatO_one (m : List OpV) : ∀ u ∈ flatO m, u.oneCell' = true := fun u hu => by
  obtain ⟨y, _, hy⟩ := List.mem_flatMap.1 hu
  exact (Array.all_eq_true_iff_forall_mem.1 (opA_one y)) u (by unfold opA; simpa using hy)
theorem ops_cells {w : World} {b off cap : Nat} {m : List OpV} (h : ∀ i x, m[i]? = some x → w.rangeAt b (off + i * 37) (opL x)) : ∀ j u, (flatO m)[j]? = some u → w.cell? ((⟨b, off, none⟩ : Addr).add j) = some u := fun j u hu => by
  have hj : j < m.length * 37 := by have := (List.getElem?_eq_some_iff.1 hu).1; rwa [flatO_len] at this
  have hi : j / 37 < m.length := by omega
  have hx : m[j / 37]? = some m[j / 37] := List.getElem?_eq_getElem hi
  have hl : j % 37 < (opL m[j / 37]).length := by rw [opL_len]; omega
  have h1 := flatO_get m (j / 37) _ hx (j % 37) _ (List.getElem?_eq_getElem hl)
  rw [show j / 37 * 37 + j % 37 = j by omega, hu] at h1
  have h2 := h (j / 37) _ hx (j % 37) _ (List.getElem?_eq_getElem hl)
  rw [Addr.add_mid, show off + j = off + j / 37 * 37 + j % 37 by omega, h2, h1]
theorem run_appA (w : World) (ty : TypeId) (vx : Value) (m : List OpV) (hx : OpsAt w vx m) (hb : m.length ≤ 1599289640355) :
    ∃ v' w', (Builtin.append_ #[36, 36] ty #[.slice none 0 0, vx]).run Try.prog w = .ok v' w' ∧ OwnO w' v' m ∧ Below w.heap.size w w' ∧ ∀ k, v'.ownBlock = some k → w.heap.size ≤ k := by
  obtain ⟨i, hi, hzz⟩ := Option.map_eq_some_iff.1 Try.info59
  simp only [Prod.mk.injEq] at hzz
  obtain ⟨hz, hsz, hby⟩ := hzz
  have nil_case : ∀ a c, ∃ v' w', (Builtin.append_ #[36, 36] ty #[.slice none 0 0, .slice a 0 c]).run Try.prog w = .ok v' w' ∧ OwnO w' v' [] ∧ Below w.heap.size w w' ∧ ∀ k, v'.ownBlock = some k → w.heap.size ≤ k := fun a c => by
    refine ⟨.slice none 0 0, w, ?_, OwnO.nil w, Below.refl _ _, fun k hk => by simp [Value.ownBlock] at hk⟩
    cases a with
    | none => simp [Builtin.append_, run_underlying Try.underlying36, sizeOf, typeInfo, hi, Builtin.lenOf, Builtin.firstCells]
    | some ad => simp [Builtin.append_, run_underlying Try.underlying36, sizeOf, typeInfo, hi, Builtin.lenOf, Builtin.firstCells, loadCells, loadCellsFrom]
  rcases hx with ⟨a, c, rfl, rfl⟩ | ⟨b, off, cap, rfl, hcap, hc⟩
  · exact nil_case a c
  · obtain ⟨v', w', hr, h1, h2, h3, h4⟩ := run_append_own_at (P := Try.prog) w 0 36 ty 59 i (.agg (opA zeroOp)) 37 88 Try.underlying36 hi hz hsz hby (opA_size _) (by omega) (.slice none 0 0) 0 [] (OwnO.nil w) ⟨b, off, none⟩ m.length cap (flatO m) (flatO_len m) (ops_cells (cap := cap) hc) (flatO_one m) (by unfold maxLen; omega) (by omega) (Nat.zero_le _)
    refine ⟨v', w', hr, ?_, ⟨h2.os, h2.tape, h2.output, h2.size, fun k hk => h2.block k hk (by simp [Value.ownBlock])⟩, fun k hk => ?_⟩
    · unfold OwnO; simpa using h1
    · rcases h4 with h4 | h4
      · rw [h4] at hk; simp [Value.ownBlock] at hk
      · rw [h4] at hk; injection hk with hk; omega
theorem run_appB (w : World) (ty : TypeId) (v : Value) (l m : List OpV) (hown : OwnO w v l) (g : Nat) (hg : Blk w g 59 (flatO m).toArray) (hm : 0 < m.length) (hb : l.length + m.length ≤ 2000000000000) :
    ∃ v' w', (Builtin.append_ #[36, 36] ty #[v, .slice (some ⟨g, 0, none⟩) m.length m.length]).run Try.prog w = .ok v' w' ∧ OwnO w' v' (l ++ m) ∧ (Grown w w' fun k => v.ownBlock = some k) ∧ Moved w v v' := by
  obtain ⟨i, hi, hzz⟩ := Option.map_eq_some_iff.1 Try.info59
  simp only [Prod.mk.injEq] at hzz
  obtain ⟨hz, hsz, hby⟩ := hzz
  have hnews : ∀ j u, (flatO m)[j]? = some u → w.cell? ((⟨g, 0, none⟩ : Addr).add j) = some u := fun j u hu => by
    rw [Addr.add_mid, Nat.zero_add, hg.cell, List.getElem?_toArray]; exact hu
  obtain ⟨v', w', hr, h1, h2, _⟩ := run_append_own_wide (P := Try.prog) w 0 36 ty 59 i (.agg (opA zeroOp)) 37 88 Try.underlying36 hi hz hsz hby (opA_size _) (by omega) v l.length (flatO l) hown ⟨g, 0, none⟩ m.length m.length (flatO m) (flatO_len m) hnews (flatO_one m) (by unfold maxLen; omega) (by omega) (Nat.zero_le _)
  refine ⟨v', w', hr, ?_, Grown.of h2 fun k _ e => e, ?_⟩
  · unfold OwnO
    rw [List.length_append, show flatO (l ++ m) = flatO l ++ flatO m by simp [flatO]]
    exact h1
  · rcases hown.2 with ⟨rfl, h0⟩ | ⟨g2, cap, cur, rfl, _, hg2, hnc, hcm, hcs, htake⟩
    · have hl0 : l = [] := List.eq_nil_of_length_eq_zero h0
      subst hl0
      have hr2 := run_append_nil (P := Try.prog) w 36 ty 59 i (.agg (opA zeroOp)) Try.underlying36 hi hz ⟨g, 0, none⟩ m.length m.length (flatO m) (by rw [flatO_len, hsz]) hnews hm (by omega) (by rw [hby]; omega)
      have e := hr.symm.trans hr2
      injection e with e1 e2
      subst e1
      exact .inr ⟨_, rfl, Nat.le_refl _⟩
    · by_cases hroom : l.length + m.length ≤ cap
      · have hr2 := run_append_room (P := Try.prog) w 36 ty 59 i Try.underlying36 hi g2 l.length cap cur hg2 ⟨g, 0, none⟩ m.length m.length (flatO m) (by rw [flatO_len, hsz]) hnews (flatO_one m) hroom (by rw [hsz, flatO_len, hcs]; omega)
        have e := hr.symm.trans hr2
        injection e with e1 e2
        subst e1
        exact .inl rfl
      · have holds : ∀ j u, (flatO l)[j]? = some u → w.cell? ((⟨g2, 0, none⟩ : Addr).add j) = some u := World.ownsRow.cells (g := g2) hown rfl
        have hr2 := run_append_grow (P := Try.prog) w 36 ty 59 i (.agg (opA zeroOp)) Try.underlying36 hi hz ⟨g2, 0, none⟩ l.length cap (flatO l) (by rw [flatO_len, hsz]) holds ⟨g, 0, none⟩ m.length m.length (flatO m) (by rw [flatO_len, hsz]) hnews (by omega) (by omega) (by rw [hby]; exact growslice_fits_wide (by omega) (by omega))
        have e := hr.symm.trans hr2
        injection e with e1 e2
        subst e1
        exact .inr ⟨_, rfl, Nat.le_refl _⟩

theorem sl_runO (base : Option Addr) (n cap a : Nat) (ha : a ≤ cap) (wx : World) : (Instr.sliceAt 36 (.slice base n cap) none (some (.int .i64 (a : Int))) none).run Try.prog wx = .ok (.slice base a cap) wx := by
  have hu : Try.prog.underlying 36 = some (.slice (Try.prog.elem 36)) := by rw [Try.elem36]; exact Try.underlying36
  have h1 := run_slice_h (P := Try.prog) (w := wx) 36 base n cap hu .i64 (a : Int) (by omega) (by omega)
  have h2 := run_sliceAt_slice (P := Try.prog) (w := wx) 36 (.slice base n cap) none (some (.int .i64 (a : Int))) none hu
  rw [Try.elem36] at h1
  have h3 : sliced base 0 (a : Int).toNat cap 37 = .slice base a cap := by
    have h4 : (if cap = 0 then base else base.map (·.add (0 * 37))) = base := by
      split
      · rfl
      · cases base <;> rfl
    unfold sliced
    rw [h4, Int.toNat_natCast, Nat.sub_zero, Nat.sub_zero]
  rw [h2, h1]
  refine (congrArg (fun z => Result.andThen z fun s w => Result.ok (sliced base 0 (a : Int).toNat cap s) w) (Try.sizeOf59 wx)).trans ?_
  show Result.ok (sliced base 0 (a : Int).toNat cap 37) wx = _
  rw [h3]
def mk0 : OpV := { zeroOp with kind := -7, key := ⟨#[109, 97, 114, 107]⟩ }
theorem set_mid (A X D : List Value) (k : Nat) (v : Value) (hk : k < X.length) : (A ++ X ++ D).set (A.length + k) v = A ++ X.set k v ++ D := by
  rw [List.append_assoc, List.set_append_right _ _ (by omega), Nat.add_sub_cancel_left, List.set_append_left _ _ hk, List.append_assoc]
theorem flatO_at (m : List OpV) (t : Nat) (x : OpV) (hx : m[t]? = some x) : flatO m = (flatO m).take (t * 37) ++ opL x ++ (flatO m).drop (t * 37 + 37) := by
  have ht : t < m.length := (List.getElem?_eq_some_iff.1 hx).1
  have h := flatO_set m t x ht
  rw [h]
  obtain ⟨h1, h2⟩ := List.getElem?_eq_some_iff.1 hx
  subst h2
  rw [List.set_getElem_self]
theorem flatO_cell (m : List OpV) (t k : Nat) (x y : OpV) (v : Value) (hx : m[t]? = some x) (hk : k < 37) (hy : (opL x).set k v = opL y) : (flatO m).set (t * 37 + k) v = flatO (m.set t y) := by
  have ht : t < m.length := (List.getElem?_eq_some_iff.1 hx).1
  have hl : ((flatO m).take (t * 37)).length = t * 37 := by rw [List.length_take, flatO_len]; omega
  have h1 := set_mid ((flatO m).take (t * 37)) (opL x) ((flatO m).drop (t * 37 + 37)) k v (by rw [opL_len]; exact hk)
  rw [← flatO_at m t x hx, hl, hy] at h1
  rw [h1, flatO_set m t y ht]
theorem OwnO.cell {w : World} {g n cap : Nat} {m : List OpV} (h : OwnO w (.slice (some ⟨g, 0, none⟩) n cap) m) {t k : Nat} {x y : OpV} {v : Value} (hx : m[t]? = some x) (hk : k < 37) (hy : (opL x).set k v = opL y) :
    OwnO (w.setCell ⟨g, t * 37 + k, none⟩ v) (.slice (some ⟨g, 0, none⟩) n cap) (m.set t y) := by
  have ht : t < m.length := (List.getElem?_eq_some_iff.1 hx).1
  rcases h.2 with ⟨e, _⟩ | ⟨g', cap', cur, e, hb, hg, h1, h2, h3, h4⟩
  · cases e
  · injection e with e1 e2 e3
    injection e1 with e1
    injection e1 with e1
    subst e1 e2 e3
    refine ⟨by rw [flatO_len, List.length_set], .inr ⟨g, cap, _, by rw [List.length_set], Nat.zero_le _, Blk.set hg _ _, by rw [List.length_set]; exact h1, h2, ?_, ?_⟩⟩
    · rw [Array.size_setIfInBounds]; exact h3
    · rw [List.length_set, ← flatO_cell m t k x y v hx hk hy, ← h4, Array.toList_setIfInBounds, List.take_set]
theorem OwnO.some {w : World} {v : Value} {m : List OpV} (h : OwnO w v m) (h0 : 0 < m.length) : ∃ g cap, v = .slice (some ⟨g, 0, none⟩) m.length cap ∧ m.length ≤ cap := by
  rcases h.form with ⟨_, rfl⟩ | ⟨g, cap, cur, rfl, _, h2, _⟩
  · simp at h0
  · exact ⟨g, cap, rfl, h2⟩
structure KS (w0 : World) (g5 ga n2 cap N : Nat) (la : Option Addr) (lc : Nat) (l : List OpV) (l' : List OpV) (w : World) : Prop where
  mark : Blk w g5 59 (opA mk0)
  own : OwnO w (.slice (some ⟨ga, 0, none⟩) n2 cap) (l' ++ [mk0, mk0])
  arg : OpsAt w (.slice la N lc) l
  bel : Below w0.heap.size w0 w
  lta : ∀ k, (Value.slice la N lc).ownBlock = some k → k < w0.heap.size
  lo5 : w0.heap.size ≤ g5
  loa : w0.heap.size ≤ ga
  ne : g5 ≠ ga
  len : l'.length = N
  nn : n2 = N + 2
theorem KS.grown {w0 : World} {g5 ga n2 cap N : Nat} {la : Option Addr} {lc : Nat} {l l' : List OpV} {w w' : World} {S : Nat → Prop} (h : KS w0 g5 ga n2 cap N la lc l l' w) (hg : Grown w w' S) (h5 : ¬ S g5) (ha : ¬ S ga) (hs : ∀ k, k < w0.heap.size → ¬ S k) : KS w0 g5 ga n2 cap N la lc l l' w' :=
  ⟨hg.blk h.mark h5, h.own.grown hg (fun k hk => by simp [Value.ownBlock] at hk; subst hk; exact ha), h.arg.grown hg (fun k hk _ => hs k (h.lta k hk)), h.bel.trans (hg.to_below hs h.bel.size), h.lta, h.lo5, h.loa, h.ne, h.len, h.nn⟩
theorem KS.below {w0 : World} {g5 ga n2 cap N : Nat} {la : Option Addr} {lc : Nat} {l l' : List OpV} {w w' : World} (h : KS w0 g5 ga n2 cap N la lc l l' w) (hb : Below w.heap.size w w') : KS w0 g5 ga n2 cap N la lc l l' w' :=
  h.grown (Grown.below (S := fun _ => False) hb) (fun h => h) (fun h => h) fun _ _ h => h
theorem KS.blk {w0 : World} {g5 ga n2 cap N : Nat} {la : Option Addr} {lc : Nat} {l l' : List OpV} {w : World} (h : KS w0 g5 ga n2 cap N la lc l l' w) : ∃ cur, Blk w ga 59 cur := by
  rcases h.own.form with ⟨e, _⟩ | ⟨g, cp, cur, e, hb, _⟩
  · cases e
  · injection e with e1 _
    injection e1 with e1
    injection e1 with e1
    subst e1
    exact ⟨_, hb⟩
theorem KS.ops {w0 : World} {g5 ga n2 cap N : Nat} {la : Option Addr} {lc : Nat} {l l' : List OpV} {w : World} (h : KS w0 g5 ga n2 cap N la lc l l' w) : OpsAt w (.slice (some ⟨ga, 0, none⟩) N cap) l' := by
  have h1 := (h.own.ops.take (t := N) (by rw [List.length_append, h.len]; omega)).2
  rwa [List.take_append_of_le_length (by rw [h.len]; exact Nat.le_refl _), List.take_of_length_le (by rw [h.len]; exact Nat.le_refl _)] at h1
theorem KS.at {w0 : World} {g5 ga n2 cap N : Nat} {la : Option Addr} {lc : Nat} {l l' : List OpV} {w : World} (h : KS w0 g5 ga n2 cap N la lc l l' w) : w.rangeAt ga (N * 37) (opL mk0) ∧ w.rangeAt ga ((N + 1) * 37) (opL mk0) ∧ w.rangeAt g5 0 (opL mk0) := by
  have hr : ∀ i x, (l' ++ [mk0, mk0])[i]? = some x → w.rangeAt ga (i * 37) (opL x) := by
    rcases h.own.ops with ⟨_, _, e, e2⟩ | ⟨b, off, cp, e, _, h3⟩
    · simp at e2
    · injection e with e1 _
      injection e1 with e1
      injection e1 with e1 e2
      subst e1 e2
      intro i x hx
      have := h3 i x hx
      rwa [Nat.zero_add] at this
  refine ⟨hr N mk0 (by rw [List.getElem?_append_right (by rw [h.len]; exact Nat.le_refl _), h.len, Nat.sub_self]; rfl), hr (N + 1) mk0 (by rw [List.getElem?_append_right (by rw [h.len]; omega), h.len, Nat.add_sub_cancel_left]; rfl), ?_⟩
  have := blk_range h.mark
  rwa [show (opA mk0).toList = opL mk0 from rfl] at this
def fX (x : OpV) : OpV := { x with key := x.key ++ ⟨#[120]⟩, n := 0 }
def mX (l : List OpV) (t : Nat) : List OpV := (l.take t).map fX ++ l.drop t
theorem mX_len (l : List OpV) (t : Nat) : (mX l t).length = l.length := by
  simp [mX]; omega
theorem mX_0 (l : List OpV) : mX l 0 = l := by simp [mX]
theorem mX_all (l : List OpV) : mX l l.length = l.map fX := by simp [mX]
theorem mX_at (l : List OpV) (t : Nat) (x : OpV) (hx : l[t]? = some x) : (mX l t)[t]? = some x := by
  have ht : t < l.length := (List.getElem?_eq_some_iff.1 hx).1
  unfold mX
  rw [List.getElem?_append_right (by simp; omega), List.length_map, List.length_take, Nat.min_eq_left (by omega), Nat.sub_self, List.getElem?_drop, Nat.add_zero]
  exact hx
theorem mX_next (l : List OpV) (t : Nat) (x : OpV) (hx : l[t]? = some x) : (mX l t).set t (fX x) = mX l (t + 1) := by
  have ht : t < l.length := (List.getElem?_eq_some_iff.1 hx).1
  unfold mX
  rw [List.set_append_right _ _ (by simp; omega), List.length_map, List.length_take, Nat.min_eq_left (by omega), Nat.sub_self, List.take_add_one, hx, List.map_append, List.append_assoc]
  congr 1
  show (l.drop t).set 0 (fX x) = fX x :: l.drop (t + 1)
  rw [List.drop_eq_getElem_cons ht]
  rfl
theorem opL_key (x : OpV) (k : ByteArray) : (opL x).set 1 (.string k) = opL { x with key := k } := by simp [opL]
theorem opL_n (x : OpV) (n : Int) : (opL x).set 3 (.int .i64 n) = opL { x with n := n } := by simp [opL]
theorem set_app2 (a b : List OpV) (t : Nat) (y : OpV) (h : t < a.length) : (a ++ b).set t y = a.set t y ++ b := List.set_append_left _ _ h
end Go.Proofs.Ytkjjlfpghhefcab
namespace Go.Proofs.Ytkjjlfpghhefcab
open Go.ChangeShapes Go.WideShapes Go.ChangeAt Go.RowKit Go.Deep

theorem Try.cellsOf59 : Try.prog.cellsOf 59 = 37 := by kernel_rfl
theorem Try.cellsOf57 : Try.prog.cellsOf 57 = 33 := by kernel_rfl
theorem Try.cellsOf55 : Try.prog.cellsOf 55 = 32 := by kernel_rfl
theorem Try.cellsOf3 : Try.prog.cellsOf 3 = 1 := by kernel_rfl
theorem Try.cellsOf2 : Try.prog.cellsOf 2 = 1 := by kernel_rfl
theorem Try.cellsOf9 : Try.prog.cellsOf 9 = 1 := by kernel_rfl
theorem Try.cellsOf5 : Try.prog.cellsOf 5 = 1 := by kernel_rfl
theorem Try.bytesOf59 : Try.prog.bytesOf 59 = 88 := by kernel_rfl
theorem Try.bytesOf5 : Try.prog.bytesOf 5 = 1 := by kernel_rfl
theorem reach_is : reachBytes = 140737488351232 := by decide
theorem add_none' (b o i : Nat) : (⟨b, o, none⟩ : Addr).add i = ⟨b, o + i, none⟩ := by
  cases i with
  | zero => rfl
  | succ i => rfl
theorem mem_weightsAll {H : Type} {P : Program} {e : TypeId} {d : DataW H} : ∀ {ds : List (DataW H)}, d ∈ ds → ∀ n ∈ d.weights P e, n ∈ DataW.weightsAll P e ds
  | d0 :: ds, h, n, hn => by
    simp only [DataW.weightsAll, List.mem_append]
    rcases List.mem_cons.1 h with rfl | h
    · exact .inl hn
    · exact .inr (mem_weightsAll h n hn)
theorem wf_u8 {n : Int} (h : (Lit.int .u8 n).wf = true) : 0 ≤ n ∧ n < 256 := by
  have h1 : IntKind.u8.min = 0 := by decide
  have h2 : IntKind.u8.max = 255 := by decide
  simp only [Lit.wf, h1, h2, Bool.and_eq_true, decide_eq_true_eq] at h
  omega
theorem wf_i64 {n : Int} (h : (Lit.int .i64 n).wf = true) : -9223372036854775808 ≤ n ∧ n ≤ 9223372036854775807 := by
  have h1 : IntKind.i64.min = -9223372036854775808 := by decide
  have h2 : IntKind.i64.max = 9223372036854775807 := by decide
  simp only [Lit.wf, h1, h2, Bool.and_eq_true, decide_eq_true_eq] at h
  omega

theorem row_of_trod {H : Type} {enc : TypeId × Value → H} {W : World} {sp : Nat → Bool} {held : Bool} {n base : Nat} {v : Value} {x : DataW H × List MemPlace} (hf : DataW.trod enc Try.prog W base sp held n 22 [v] = some x) (hw : ∀ n ∈ x.1.weights Try.prog 22, n ≤ reachBytes) :
    ∃ l : List Int, RowAt W v l ∧ Byts l ∧ l.length ≤ 140737488351232 := by
  rcases open_ints Try.underlying22 Try.underlying5 Try.cellsOf5 hf with ⟨hcs, _⟩ | ⟨a, len, cap, zs, hcs, _, hl, hm, hz, hx, hcell, hwz⟩
  · simp at hcs
    subst hcs
    exact ⟨[], .inl ⟨rfl, rfl⟩, Byts.nil, by simp⟩
  · simp at hcs
    subst hcs
    unfold maxLen at hm
    have hlz : len ≤ zs.length := by rw [hz]; split <;> omega
    have hbz : Byts zs := fun c hc => wf_u8 (hwz c hc)
    have hb : len ≤ 140737488351232 := by
      have h1 := hw ((zs.take len).length + (zs.drop len).length) (by
        rw [hx]
        simp only [DataW.weights, Try.underlying22]
        simp [lits, Try.bytesOf5])
      rw [List.length_take, reach_is] at h1
      omega
    by_cases h0 : len = 0
    · subst h0
      exact ⟨[], .inr (.inl ⟨a, cap, rfl, rfl⟩), Byts.nil, by simp⟩
    · have hs : a.spot = none := by
        have := hcell 0 (by omega)
        rw [show a.add 0 = a from rfl] at this
        exact World.cell?_spot this
      obtain ⟨b, off, sp⟩ := a
      obtain rfl : sp = none := hs
      have hlen : (zs.take len).length = len := by rw [List.length_take]; omega
      refine ⟨zs.take len, .inr (.inr ⟨b, off, cap, by rw [hlen], by omega, fun i hi => ?_⟩), hbz.take len, by omega⟩
      rw [hlen] at hi
      have := hcell i (by omega)
      rw [add_none'] at this
      rw [this]
      simp [List.getD, hi]

theorem trod_struct5 {H : Type} {enc : TypeId × Value → H} {P : Program} {w : World} {base : Nat} {spare : Nat → Bool} {held : Bool} {t : TypeId} {f0 f1 f2 f3 f4 : Field} {fuel : Nat} {cs : List Value} {x : DataW H × List MemPlace} (ht : P.underlying t = some (.struct #[f0, f1, f2, f3, f4])) (h : DataW.trod enc P w base spare held fuel t cs = some x) :
    ∃ y0 y1 y2 y3 y4 n, x.1 = .agg [y0.1, y1.1, y2.1, y3.1, y4.1] ∧ cs.length = P.cellsOf t ∧ DataW.trod enc P w base spare held n f0.type ((cs.drop f0.offset).take (P.cellsOf f0.type)) = some y0 ∧
      DataW.trod enc P w base spare held n f1.type ((cs.drop f1.offset).take (P.cellsOf f1.type)) = some y1 ∧ DataW.trod enc P w base spare held n f2.type ((cs.drop f2.offset).take (P.cellsOf f2.type)) = some y2 ∧ DataW.trod enc P w base spare held n f3.type ((cs.drop f3.offset).take (P.cellsOf f3.type)) = some y3 ∧ DataW.trod enc P w base spare held n f4.type ((cs.drop f4.offset).take (P.cellsOf f4.type)) = some y4 := by
  obtain ⟨xs, n, _, rfl, hl, hlen, hf⟩ := DataW.trod_struct ht h
  match xs, hlen with
  | [y0, y1, y2, y3, y4], _ => exact ⟨y0, y1, y2, y3, y4, n, by simp, hl, by simpa using hf 0 f0 rfl, by simpa using hf 1 f1 rfl, by simpa using hf 2 f2 rfl, by simpa using hf 3 f3 rfl, by simpa using hf 4 f4 rfl⟩
theorem trod_struct2 {H : Type} {enc : TypeId × Value → H} {P : Program} {w : World} {base : Nat} {spare : Nat → Bool} {held : Bool} {t : TypeId} {f0 f1 : Field} {fuel : Nat} {cs : List Value} {x : DataW H × List MemPlace} (ht : P.underlying t = some (.struct #[f0, f1])) (h : DataW.trod enc P w base spare held fuel t cs = some x) :
    ∃ y0 y1 n, x.1 = .agg [y0.1, y1.1] ∧ cs.length = P.cellsOf t ∧ DataW.trod enc P w base spare held n f0.type ((cs.drop f0.offset).take (P.cellsOf f0.type)) = some y0 ∧
      DataW.trod enc P w base spare held n f1.type ((cs.drop f1.offset).take (P.cellsOf f1.type)) = some y1 := by
  obtain ⟨xs, n, _, rfl, hl, hlen, hf⟩ := DataW.trod_struct ht h
  match xs, hlen with
  | [y0, y1], _ => exact ⟨y0, y1, n, by simp, hl, by simpa using hf 0 f0 rfl, by simpa using hf 1 f1 rfl⟩
theorem take_one {l : List Value} {i : Nat} {v : Value} (h : (l.drop i).take 1 = [v]) : l[i]? = some v := by
  have h2 : ((l.drop i).take 1)[0]? = some v := by rw [h]; rfl
  rw [List.getElem?_take, if_pos (by omega), List.getElem?_drop] at h2
  simpa using h2
theorem hash_of_trod {H : Type} {enc : TypeId × Value → H} {W : World} {sp : Nat → Bool} {held : Bool} {n base : Nat} {l : List Value} {x : DataW H × List MemPlace} (hf : DataW.trod enc Try.prog W base sp held n 55 l = some x) :
    ∃ c : List Int, l = bv (hl 32 (hof c)) ∧ c.length = 32 ∧ Byts c := by
  obtain ⟨xs, m, _, _, hl_, hx, hel⟩ := DataW.trod_array Try.underlying55 hf
  rw [Try.cellsOf55] at hl_
  rw [Try.cellsOf5] at hel
  have each : ∀ i, i < 32 → ∃ z : Int, l[i]? = some (.int .u8 z) ∧ 0 ≤ z ∧ z < 256 := by
    intro i hi
    have h1 := hel i hi
    rw [List.getElem?_eq_getElem (by omega), Nat.mul_one] at h1
    obtain ⟨z, hz, _, hw⟩ := DataW.trod_int Try.underlying5 h1
    have hb := wf_u8 hw
    exact ⟨z, take_one hz, by omega, by omega⟩
  obtain ⟨c, hc⟩ := Go.Deep.choose_lt each
  refine ⟨hl 32 c, ?_, hl_len _ _, fun z hz => ?_⟩
  · rw [hl_of, ← hl_bytesA]
    apply List.ext_getElem?
    intro i
    by_cases hi : i < 32
    · rw [(hc i hi).1, Array.getElem?_toList, bytesA_get _ _ _ hi]
    · rw [List.getElem?_eq_none (by omega), List.getElem?_eq_none (by rw [Array.length_toList, bytesA_size]; omega)]
  · unfold hl at hz
    obtain ⟨i, hi, rfl⟩ := List.mem_map.1 hz
    exact (hc i (List.mem_range.1 hi)).2
theorem one_of {cs : List Value} {v : Value} {j : Nat} (h : (cs.drop j).take 1 = [v]) : cs[j]? = some v := take_one h
set_option maxRecDepth 8000 in
theorem wide_lt {W : World} {r : Reach} {base : Nat} {t e : TypeId} (hu : Try.prog.underlying t = some (.slice e)) {a : Option Addr} {n c : Nat} (h : Value.okWide Try.prog W r base t (.slice a n c)) : ∀ k, (Value.slice a n c).ownBlock = some k → k < W.heap.size := by
  intro k hk
  cases a with
  | none => simp [Value.ownBlock] at hk
  | some ad =>
    simp [Value.ownBlock] at hk
    subst hk
    unfold Value.okWide at h
    simp only [hu] at h
    unfold Cell.okWide at h
    simp only [hu] at h
    unfold Cell.ok at h
    simp only [hu] at h
    obtain ⟨_, _, _, _, row, cells, hs, _⟩ := h
    apply Nat.lt_of_not_le
    intro hle
    simp [World.shape?, Array.getElem?_eq_none hle] at hs
end Go.Proofs.Ytkjjlfpghhefcab
namespace Go.Proofs.Ytkjjlfpghhefcab
open Go.RowKit
set_option linter.unusedSimpArgs false

def fbad (x : OpV) : Bool := (!txt x.kind && !(x.text.toList == [])) || (!(x.kind == 6) && !(x.n == 0)) || (!hat x.kind && !(nd x.node z32 && x.op == 0))
theorem empty_list : (ByteArray.empty).toList = [] := by rw [ByteArray.toList_eq]; rfl
theorem empty_list' : ({ data := #[] } : ByteArray).toList = [] := by rw [ByteArray.toList_eq]
theorem text_beq (t : ByteArray) : (t == ByteArray.empty) = (t.toList == []) := by rw [beq_toListBytes, empty_list]
theorem fbad_eq (x : OpV) (h : hasI x.kind ≠ []) : sm (wipes (hasI x.kind) { x with kind := 0 }) zeroOp = !fbad x := by
  have hk := hasI_mem h
  obtain ⟨kind, key, text, n, node, op⟩ := x
  simp only [List.mem_cons, List.not_mem_nil, or_false] at hk
  rcases hk with rfl | rfl | rfl | rfl | rfl | rfl | rfl | rfl | rfl <;>
    simp [hasI, wipes, wipe, sm, zeroOp, fbad, txt, hat, nd_refl, text_beq, empty_list', Bool.and_assoc]
theorem hat_eq (x : OpV) (h : hasI x.kind ≠ []) : (cellV x.kind = 4) = (hat x.kind = true) := by
  have hk := hasI_mem h
  simp only [List.mem_cons, List.not_mem_nil, or_false] at hk
  rcases hk with e | e | e | e | e | e | e | e | e <;> rw [e] <;> simp [cellV, hat]
def rwrongV (l : List OpV) (x : OpV) : Int := if x.kind < 1 then 40 else if 9 < x.kind then 40 else if 65536 < x.key.size then 4 else if 65536 < x.text.size then 4 else if fbad x = true then 41 else if hat x.kind = true then (if mayAt l x = true then 0 else 42) else 0
theorem rwrong_eq (l : List OpV) (x : OpV) : rwrongV l x = wrongV l x := by
  unfold rwrongV wrongV
  by_cases h : hasI x.kind = []
  · rw [if_pos h]
    by_cases h1 : x.kind < 1
    · rw [if_pos h1]
    · rw [if_neg h1]
      by_cases h2 : 9 < x.kind
      · rw [if_pos h2]
      · exact absurd h (hasI_some x.kind (by simp only [List.mem_cons, List.not_mem_nil, or_false]; omega))
  · have hr := hasI_rng h
    rw [if_neg h, if_neg (show ¬ x.kind < 1 by omega), if_neg (show ¬ 9 < x.kind by omega), fbad_eq x h]
    simp only [hat_eq x h]
    cases fbad x <;> simp
set_option maxRecDepth 8000 in
set_option maxHeartbeats 4000000 in
theorem rwrong_any (v : Value) (l : List OpV) (i : Nat) (w : World) (hl : OpsAt w v l) (hi : i < l.length) (hb : l.length ≤ 4398046511104) (hok : OpOk (l.getD i zeroOp)) :
    Calls Try.prog 40 #[v, .int .i64 (i : Int)] w fun e w' => e = .returned (.int .i64 (wrongV (l.take i) (l.getD i zeroOp))) ∧ Below w.heap.size w w' := by
  obtain ⟨va, vc, rfl⟩ := hl.form
  obtain ⟨gL, ofL, hva, hr⟩ := hl.at hi
  obtain ⟨x, hx0⟩ : ∃ x, Keep (x = l.getD i zeroOp) := ⟨_, ⟨rfl⟩⟩
  rw [← hx0.out] at hr hok ⊢
  obtain ⟨R, hR⟩ : ∃ R, R = wrongV (l.take i) x := ⟨_, rfl⟩
  rw [← hR]
  rw [← rwrong_eq] at hR
  unfold rwrongV at hR
  have HR := Keep.mk hR
  have HL := Keep.mk hl
  have HRx := Keep.mk hr
  have Hi := Keep.mk hi
  have Hlb := Keep.mk hb
  have Hok := Keep.mk hok
  have hi' : (i : Int) < (l.length : Int) := by omega
  have hk1 : (x.key.size : Int) ≤ 9223372036854775807 := by have := hok.key; omega
  have hk2 : (x.text.size : Int) ≤ 9223372036854775807 := by have := hok.text; omega
  have HX := Keep.mk ((Blk.new w 59 (opA zeroOp)).setRow (opA x))
  have HW1 : Keep (Below w.heap.size w ((w.alloc (.cells (opA zeroOp) 59)).setRow w.heap.size (opA x))) := ⟨below_setRow (below_new w _) (Nat.le_refl _) _⟩
  obtain ⟨w1, hw1⟩ : ∃ w1, Keep ((w.alloc (.cells (opA zeroOp) 59)).setRow w.heap.size (opA x) = w1) := ⟨_, ⟨rfl⟩⟩
  rw [hw1.out] at HX HW1
  have c0 := HX.out.c 0 (opA_0 x)
  clear hl hi hb hok hr hR
  go_enter Try.func40, Try.ntmps40
  refine wp_seq_k fun K1 hK1 => ?_
  refine wp_region_list (WL.out ?_)
  refine WL.val (by kernel_rfl) (.int .i64 0) (by go_simp) ?_
  simp only [Act.put, List.setIfInBounds_toArray, List.set_cons_zero, List.set_cons_succ]
  refine WL.nil ?_
  refine hK1 _ _ ?_
  refine wp_seq_k fun K2 hK2 => ?_
  refine wp_region_list (WL.out ?_)
  refine WL.val (by kernel_rfl) (.slice va l.length vc) (by go_simp) ?_
  simp only [Act.put, List.setIfInBounds_toArray, List.set_cons_zero, List.set_cons_succ]
  refine WL.val (by kernel_rfl) (.int .i64 (i : Int)) (by go_simp) ?_
  simp only [Act.put, List.setIfInBounds_toArray, List.set_cons_zero, List.set_cons_succ]
  refine WL.val (by kernel_rfl) (.pointer (some ⟨gL, ofL + i * 37, none⟩)) (by go_simp) ?_
  simp only [Act.put, List.setIfInBounds_toArray, List.set_cons_zero, List.set_cons_succ]
  refine WL.mid (by kernel_rfl) 59 (.tmp 12) rfl gL (ofL + i * 37) rfl (opL x) _ HRx.out Try.underlying59 rfl (Try.size59L x) ?_
  rw [rng_load]
  simp only [Act.put, List.setIfInBounds_toArray, List.set_cons_zero, List.set_cons_succ]
  refine WL.new (by kernel_rfl) 59 rfl _ Try.new59 ?_
  simp only [Act.put, List.setIfInBounds_toArray, List.set_cons_zero, List.set_cons_succ]
  refine WL.storeR (by kernel_rfl) 59 (.tmp 5) (.tmp 13) rfl w.heap.size (opA x) rfl rfl 59 (opA zeroOp) (Blk.new w 59 _) (Try.size59B x) (opA_sizes _ _) (opA_one x) ?_
  rw [hw1.out]
  simp only [Act.put]
  refine WL.nil ?_
  refine hK2 _ _ ?_
  refine wp_seq_k fun K3 hK3 => ?_
  refine wp_region_list (WL.out ?_)
  refine WL.val (by kernel_rfl) (.pointer (some ⟨w.heap.size, 0, none⟩)) (by go_simp) ?_
  simp only [Act.put, List.setIfInBounds_toArray, List.set_cons_zero, List.set_cons_succ]
  refine WL.val (by kernel_rfl) (.int .i64 x.kind) (by go_simp) ?_
  simp only [Act.put, List.setIfInBounds_toArray, List.set_cons_zero, List.set_cons_succ]
  refine WL.callF (by kernel_rfl) 43 _ _ rfl Try.in43 #[.int .i64 x.kind] (by simp [Act.eval]) ?_
  refine (hasText_any x.kind w1).mono ?_
  rintro e w3 ⟨rfl, hw3⟩
  subst hw3
  refine ⟨_, rfl, ?_⟩
  simp only [Act.put, List.setIfInBounds_toArray, List.set_cons_zero, List.set_cons_succ]
  refine WL.val (by kernel_rfl) (.bool (txt x.kind)) (by go_simp) ?_
  simp only [Act.put, List.setIfInBounds_toArray, List.set_cons_zero, List.set_cons_succ]
  refine WL.nil ?_
  refine hK3 _ _ ?_
  refine wp_seq_k fun K4 hK4 => ?_
  refine wp_region_list (WL.out ?_)
  refine WL.val (by kernel_rfl) (.pointer (some ⟨w.heap.size, 0, none⟩)) (by go_simp) ?_
  simp only [Act.put, List.setIfInBounds_toArray, List.set_cons_zero, List.set_cons_succ]
  refine WL.val (by kernel_rfl) (.int .i64 x.kind) (by go_simp) ?_
  simp only [Act.put, List.setIfInBounds_toArray, List.set_cons_zero, List.set_cons_succ]
  refine WL.callF (by kernel_rfl) 45 _ _ rfl Try.in45 #[.int .i64 x.kind] (by simp [Act.eval]) ?_
  refine (hasAt_any x.kind w3).mono ?_
  rintro e w4 ⟨rfl, hw4⟩
  subst hw4
  refine ⟨_, rfl, ?_⟩
  simp only [Act.put, List.setIfInBounds_toArray, List.set_cons_zero, List.set_cons_succ]
  refine WL.val (by kernel_rfl) (.bool (hat x.kind)) (by go_simp) ?_
  simp only [Act.put, List.setIfInBounds_toArray, List.set_cons_zero, List.set_cons_succ]
  refine WL.nil ?_
  refine hK4 _ _ ?_
  refine wp_seq_k fun K5 hK5 => ?_
  refine wp_region_list (WL.out ?_)
  refine WL.val (by kernel_rfl) (.pointer (some ⟨w.heap.size, 4, none⟩)) (by go_simp) ?_
  simp only [Act.put, List.setIfInBounds_toArray, List.set_cons_zero, List.set_cons_succ]
  refine WL.midA (by kernel_rfl) 57 (.tmp 20) rfl w.heap.size 4 rfl (idA x.node x.op) _ (opA_range HX.out) Try.underlying57 rfl (Try.size57B _ _) ?_
  simp only [Act.put, List.setIfInBounds_toArray, List.set_cons_zero, List.set_cons_succ]
  refine WL.callF (by kernel_rfl) 62 _ _ rfl Try.in62 #[.agg (idA x.node x.op)] (by simp [Act.eval]) ?_
  refine (zero_any x.node x.op w4).mono ?_
  rintro e w5 ⟨rfl, h5⟩
  refine ⟨_, rfl, ?_⟩
  have HX5 := Keep.mk (HX.out.below h5 HX.out.lt)
  have HW5 := Keep.mk (HW1.out.trans (h5.mono HW1.out.size))
  have d0 := HX5.out.c 0 (opA_0 x)
  have d1 := HX5.out.c 1 (opA_1 x)
  have d2 := HX5.out.c 2 (opA_2 x)
  have d3 := HX5.out.c 3 (opA_3 x)
  clear h5
  simp only [Act.put, List.setIfInBounds_toArray, List.set_cons_zero, List.set_cons_succ]
  refine WL.val (by kernel_rfl) (.bool (nd x.node z32 && x.op == 0)) (by go_simp) ?_
  simp only [Act.put, List.setIfInBounds_toArray, List.set_cons_zero, List.set_cons_succ]
  refine WL.nil ?_
  refine hK5 _ _ ?_
  refine wp_seq_k fun K6 hK6 => ?_
  refine wp_block ?_
  refine wp_seq_k fun K7 hK7 => ?_
  refine wp_region_list (WL.out ?_)
  refine WL.val (by kernel_rfl) (.pointer (some ⟨w.heap.size, 0, none⟩)) (by go_simp) ?_
  simp only [Act.put, List.setIfInBounds_toArray, List.set_cons_zero, List.set_cons_succ]
  refine WL.val (by kernel_rfl) (.int .i64 x.kind) (by go_simp) ?_
  simp only [Act.put, List.setIfInBounds_toArray, List.set_cons_zero, List.set_cons_succ]
  by_cases h5_2 : x.kind < 1
  · skip
    refine WL.val (by kernel_rfl) (.bool true) (by go_simp) ?_
    simp only [Act.put, List.setIfInBounds_toArray, List.set_cons_zero, List.set_cons_succ]
    refine WL.val (by kernel_rfl) (.bool true) (by go_simp) ?_
    simp only [Act.put, List.setIfInBounds_toArray, List.set_cons_zero, List.set_cons_succ]
    refine WL.skip (by kernel_rfl) ?_
    simp only [Act.put, List.setIfInBounds_toArray, List.set_cons_zero, List.set_cons_succ]
    refine WL.skip (by kernel_rfl) ?_
    simp only [Act.put, List.setIfInBounds_toArray, List.set_cons_zero, List.set_cons_succ]
    refine WL.skip (by kernel_rfl) ?_
    simp only [Act.put, List.setIfInBounds_toArray, List.set_cons_zero, List.set_cons_succ]
    refine WL.val (by kernel_rfl) (.bool true) (by go_simp) ?_
    simp only [Act.put, List.setIfInBounds_toArray, List.set_cons_zero, List.set_cons_succ]
    refine WL.val (by kernel_rfl) (.bool true) (by go_simp) ?_
    simp only [Act.put, List.setIfInBounds_toArray, List.set_cons_zero, List.set_cons_succ]
    refine WL.nil ?_
    refine hK7 _ _ ?_
    refine wp_cond_true rfl ?_
    refine wp_seq_k fun K8 hK8 => ?_
    refine wp_region_list (WL.out ?_)
    refine WL.val (by kernel_rfl) (.int .i64 40) (by go_simp) ?_
    simp only [Act.put, List.setIfInBounds_toArray, List.set_cons_zero, List.set_cons_succ]
    refine WL.nil ?_
    refine hK8 _ _ ?_
    refine wp_ret ?_
    go_ret
    exact ⟨by rw [HR.out, if_pos (show x.kind < 1 by omega)]; rfl, HW5.out⟩
  · skip
    refine WL.val (by kernel_rfl) (.bool false) (by go_simp) ?_
    simp only [Act.put, List.setIfInBounds_toArray, List.set_cons_zero, List.set_cons_succ]
    refine WL.val (by kernel_rfl) (.bool false) (by go_simp) ?_
    simp only [Act.put, List.setIfInBounds_toArray, List.set_cons_zero, List.set_cons_succ]
    refine WL.val (by kernel_rfl) (.pointer (some ⟨w.heap.size, 0, none⟩)) (by go_simp) ?_
    simp only [Act.put, List.setIfInBounds_toArray, List.set_cons_zero, List.set_cons_succ]
    refine WL.val (by kernel_rfl) (.int .i64 x.kind) (by go_simp) ?_
    simp only [Act.put, List.setIfInBounds_toArray, List.set_cons_zero, List.set_cons_succ]
    by_cases h5_6 : 9 < x.kind
    · skip
      refine WL.val (by kernel_rfl) (.bool true) (by go_simp) ?_
      simp only [Act.put, List.setIfInBounds_toArray, List.set_cons_zero, List.set_cons_succ]
      refine WL.val (by kernel_rfl) (.bool true) (by go_simp) ?_
      simp only [Act.put, List.setIfInBounds_toArray, List.set_cons_zero, List.set_cons_succ]
      refine WL.val (by kernel_rfl) (.bool true) (by go_simp) ?_
      simp only [Act.put, List.setIfInBounds_toArray, List.set_cons_zero, List.set_cons_succ]
      refine WL.nil ?_
      refine hK7 _ _ ?_
      refine wp_cond_true rfl ?_
      refine wp_seq_k fun K9 hK9 => ?_
      refine wp_region_list (WL.out ?_)
      refine WL.val (by kernel_rfl) (.int .i64 40) (by go_simp) ?_
      simp only [Act.put, List.setIfInBounds_toArray, List.set_cons_zero, List.set_cons_succ]
      refine WL.nil ?_
      refine hK9 _ _ ?_
      refine wp_ret ?_
      go_ret
      exact ⟨by rw [HR.out, if_neg (show ¬ x.kind < 1 by omega), if_pos (show 9 < x.kind by omega)]; rfl, HW5.out⟩
    · skip
      refine WL.val (by kernel_rfl) (.bool false) (by go_simp) ?_
      simp only [Act.put, List.setIfInBounds_toArray, List.set_cons_zero, List.set_cons_succ]
      refine WL.val (by kernel_rfl) (.bool false) (by go_simp) ?_
      simp only [Act.put, List.setIfInBounds_toArray, List.set_cons_zero, List.set_cons_succ]
      refine WL.val (by kernel_rfl) (.bool false) (by go_simp) ?_
      simp only [Act.put, List.setIfInBounds_toArray, List.set_cons_zero, List.set_cons_succ]
      refine WL.nil ?_
      refine hK7 _ _ ?_
      refine wp_cond_false rfl ?_
      refine wp_seq_k fun K10 hK10 => ?_
      refine wp_region_list (WL.out ?_)
      refine WL.val (by kernel_rfl) (.pointer (some ⟨w.heap.size, 1, none⟩)) (by go_simp) ?_
      simp only [Act.put, List.setIfInBounds_toArray, List.set_cons_zero, List.set_cons_succ]
      refine WL.val (by kernel_rfl) (.string x.key) (by go_simp) ?_
      simp only [Act.put, List.setIfInBounds_toArray, List.set_cons_zero, List.set_cons_succ]
      refine WL.val (by kernel_rfl) (.int .i64 (x.key.size : Int)) (by go_simp) ?_
      simp only [Act.put, List.setIfInBounds_toArray, List.set_cons_zero, List.set_cons_succ]
      by_cases h7_3 : (65536 : Int) < (x.key.size : Int)
      · skip
        refine WL.val (by kernel_rfl) (.bool true) (by go_simp) ?_
        simp only [Act.put, List.setIfInBounds_toArray, List.set_cons_zero, List.set_cons_succ]
        refine WL.val (by kernel_rfl) (.bool true) (by go_simp) ?_
        simp only [Act.put, List.setIfInBounds_toArray, List.set_cons_zero, List.set_cons_succ]
        refine WL.skip (by kernel_rfl) ?_
        simp only [Act.put, List.setIfInBounds_toArray, List.set_cons_zero, List.set_cons_succ]
        refine WL.skip (by kernel_rfl) ?_
        simp only [Act.put, List.setIfInBounds_toArray, List.set_cons_zero, List.set_cons_succ]
        refine WL.skip (by kernel_rfl) ?_
        simp only [Act.put, List.setIfInBounds_toArray, List.set_cons_zero, List.set_cons_succ]
        refine WL.skip (by kernel_rfl) ?_
        simp only [Act.put, List.setIfInBounds_toArray, List.set_cons_zero, List.set_cons_succ]
        refine WL.val (by kernel_rfl) (.bool true) (by go_simp) ?_
        simp only [Act.put, List.setIfInBounds_toArray, List.set_cons_zero, List.set_cons_succ]
        refine WL.val (by kernel_rfl) (.bool true) (by go_simp) ?_
        simp only [Act.put, List.setIfInBounds_toArray, List.set_cons_zero, List.set_cons_succ]
        refine WL.nil ?_
        refine hK10 _ _ ?_
        refine wp_cond_true rfl ?_
        refine wp_seq_k fun K11 hK11 => ?_
        refine wp_region_list (WL.out ?_)
        refine WL.val (by kernel_rfl) (.int .i64 4) (by go_simp) ?_
        simp only [Act.put, List.setIfInBounds_toArray, List.set_cons_zero, List.set_cons_succ]
        refine WL.nil ?_
        refine hK11 _ _ ?_
        refine wp_ret ?_
        go_ret
        exact ⟨by rw [HR.out, if_neg (show ¬ x.kind < 1 by omega), if_neg (show ¬ 9 < x.kind by omega), if_pos (show 65536 < x.key.size by omega)]; rfl, HW5.out⟩
      · skip
        refine WL.val (by kernel_rfl) (.bool false) (by go_simp) ?_
        simp only [Act.put, List.setIfInBounds_toArray, List.set_cons_zero, List.set_cons_succ]
        refine WL.val (by kernel_rfl) (.bool false) (by go_simp) ?_
        simp only [Act.put, List.setIfInBounds_toArray, List.set_cons_zero, List.set_cons_succ]
        refine WL.val (by kernel_rfl) (.pointer (some ⟨w.heap.size, 2, none⟩)) (by go_simp) ?_
        simp only [Act.put, List.setIfInBounds_toArray, List.set_cons_zero, List.set_cons_succ]
        refine WL.val (by kernel_rfl) (.string x.text) (by go_simp) ?_
        simp only [Act.put, List.setIfInBounds_toArray, List.set_cons_zero, List.set_cons_succ]
        refine WL.val (by kernel_rfl) (.int .i64 (x.text.size : Int)) (by go_simp) ?_
        simp only [Act.put, List.setIfInBounds_toArray, List.set_cons_zero, List.set_cons_succ]
        by_cases h7_8 : (65536 : Int) < (x.text.size : Int)
        · skip
          refine WL.val (by kernel_rfl) (.bool true) (by go_simp) ?_
          simp only [Act.put, List.setIfInBounds_toArray, List.set_cons_zero, List.set_cons_succ]
          refine WL.val (by kernel_rfl) (.bool true) (by go_simp) ?_
          simp only [Act.put, List.setIfInBounds_toArray, List.set_cons_zero, List.set_cons_succ]
          refine WL.val (by kernel_rfl) (.bool true) (by go_simp) ?_
          simp only [Act.put, List.setIfInBounds_toArray, List.set_cons_zero, List.set_cons_succ]
          refine WL.nil ?_
          refine hK10 _ _ ?_
          refine wp_cond_true rfl ?_
          refine wp_seq_k fun K12 hK12 => ?_
          refine wp_region_list (WL.out ?_)
          refine WL.val (by kernel_rfl) (.int .i64 4) (by go_simp) ?_
          simp only [Act.put, List.setIfInBounds_toArray, List.set_cons_zero, List.set_cons_succ]
          refine WL.nil ?_
          refine hK12 _ _ ?_
          refine wp_ret ?_
          go_ret
          exact ⟨by rw [HR.out, if_neg (show ¬ x.kind < 1 by omega), if_neg (show ¬ 9 < x.kind by omega), if_neg (show ¬ 65536 < x.key.size by omega), if_pos (show 65536 < x.text.size by omega)]; rfl, HW5.out⟩
        · skip
          refine WL.val (by kernel_rfl) (.bool false) (by go_simp) ?_
          simp only [Act.put, List.setIfInBounds_toArray, List.set_cons_zero, List.set_cons_succ]
          refine WL.val (by kernel_rfl) (.bool false) (by go_simp) ?_
          simp only [Act.put, List.setIfInBounds_toArray, List.set_cons_zero, List.set_cons_succ]
          refine WL.val (by kernel_rfl) (.bool false) (by go_simp) ?_
          simp only [Act.put, List.setIfInBounds_toArray, List.set_cons_zero, List.set_cons_succ]
          refine WL.nil ?_
          refine hK10 _ _ ?_
          refine wp_cond_false rfl ?_
          refine wp_seq_k fun K13 hK13 => ?_
          refine wp_region_list (WL.out ?_)
          refine WL.val (by kernel_rfl) (.bool (txt x.kind)) (by go_simp) ?_
          simp only [Act.put, List.setIfInBounds_toArray, List.set_cons_zero, List.set_cons_succ]
          rcases Bool.eq_false_or_eq_true (!txt x.kind) with h9_1 | h9_1
          · skip
            refine WL.val (by kernel_rfl) (.bool true) (by go_simp) ?_
            simp only [Act.put, List.setIfInBounds_toArray, List.set_cons_zero, List.set_cons_succ]
            refine WL.val (by kernel_rfl) (.bool true) (by go_simp) ?_
            simp only [Act.put, List.setIfInBounds_toArray, List.set_cons_zero, List.set_cons_succ]
            refine WL.val (by kernel_rfl) (.pointer (some ⟨w.heap.size, 2, none⟩)) (by go_simp) ?_
            simp only [Act.put, List.setIfInBounds_toArray, List.set_cons_zero, List.set_cons_succ]
            refine WL.val (by kernel_rfl) (.string x.text) (by go_simp) ?_
            simp only [Act.put, List.setIfInBounds_toArray, List.set_cons_zero, List.set_cons_succ]
            rcases Bool.eq_false_or_eq_true (!(x.text.toList == [])) with h9_5 | h9_5
            · have h9_5p : ¬ x.text.toList = [] := by simpa using h9_5
              refine WL.val (by kernel_rfl) (.bool true) (by go_simp) ?_
              simp only [Act.put, List.setIfInBounds_toArray, List.set_cons_zero, List.set_cons_succ]
              refine WL.val (by kernel_rfl) (.bool true) (by go_simp) ?_
              simp only [Act.put, List.setIfInBounds_toArray, List.set_cons_zero, List.set_cons_succ]
              refine WL.val (by kernel_rfl) (.bool true) (by go_simp) ?_
              simp only [Act.put, List.setIfInBounds_toArray, List.set_cons_zero, List.set_cons_succ]
              refine WL.skip (by kernel_rfl) ?_
              simp only [Act.put, List.setIfInBounds_toArray, List.set_cons_zero, List.set_cons_succ]
              refine WL.skip (by kernel_rfl) ?_
              simp only [Act.put, List.setIfInBounds_toArray, List.set_cons_zero, List.set_cons_succ]
              refine WL.skip (by kernel_rfl) ?_
              simp only [Act.put, List.setIfInBounds_toArray, List.set_cons_zero, List.set_cons_succ]
              refine WL.skip (by kernel_rfl) ?_
              simp only [Act.put, List.setIfInBounds_toArray, List.set_cons_zero, List.set_cons_succ]
              refine WL.skip (by kernel_rfl) ?_
              simp only [Act.put, List.setIfInBounds_toArray, List.set_cons_zero, List.set_cons_succ]
              refine WL.skip (by kernel_rfl) ?_
              simp only [Act.put, List.setIfInBounds_toArray, List.set_cons_zero, List.set_cons_succ]
              refine WL.skip (by kernel_rfl) ?_
              simp only [Act.put, List.setIfInBounds_toArray, List.set_cons_zero, List.set_cons_succ]
              refine WL.skip (by kernel_rfl) ?_
              simp only [Act.put, List.setIfInBounds_toArray, List.set_cons_zero, List.set_cons_succ]
              refine WL.val (by kernel_rfl) (.bool true) (by go_simp) ?_
              simp only [Act.put, List.setIfInBounds_toArray, List.set_cons_zero, List.set_cons_succ]
              refine WL.val (by kernel_rfl) (.bool true) (by go_simp) ?_
              simp only [Act.put, List.setIfInBounds_toArray, List.set_cons_zero, List.set_cons_succ]
              refine WL.skip (by kernel_rfl) ?_
              simp only [Act.put, List.setIfInBounds_toArray, List.set_cons_zero, List.set_cons_succ]
              refine WL.skip (by kernel_rfl) ?_
              simp only [Act.put, List.setIfInBounds_toArray, List.set_cons_zero, List.set_cons_succ]
              refine WL.skip (by kernel_rfl) ?_
              simp only [Act.put, List.setIfInBounds_toArray, List.set_cons_zero, List.set_cons_succ]
              refine WL.skip (by kernel_rfl) ?_
              simp only [Act.put, List.setIfInBounds_toArray, List.set_cons_zero, List.set_cons_succ]
              refine WL.skip (by kernel_rfl) ?_
              simp only [Act.put, List.setIfInBounds_toArray, List.set_cons_zero, List.set_cons_succ]
              refine WL.skip (by kernel_rfl) ?_
              simp only [Act.put, List.setIfInBounds_toArray, List.set_cons_zero, List.set_cons_succ]
              refine WL.val (by kernel_rfl) (.bool true) (by go_simp) ?_
              simp only [Act.put, List.setIfInBounds_toArray, List.set_cons_zero, List.set_cons_succ]
              refine WL.val (by kernel_rfl) (.bool true) (by go_simp) ?_
              simp only [Act.put, List.setIfInBounds_toArray, List.set_cons_zero, List.set_cons_succ]
              refine WL.nil ?_
              refine hK13 _ _ ?_
              refine wp_cond_true rfl ?_
              refine wp_seq_k fun K14 hK14 => ?_
              refine wp_region_list (WL.out ?_)
              refine WL.val (by kernel_rfl) (.int .i64 41) (by go_simp) ?_
              simp only [Act.put, List.setIfInBounds_toArray, List.set_cons_zero, List.set_cons_succ]
              refine WL.nil ?_
              refine hK14 _ _ ?_
              refine wp_ret ?_
              go_ret
              exact ⟨by rw [HR.out, if_neg (show ¬ x.kind < 1 by omega), if_neg (show ¬ 9 < x.kind by omega), if_neg (show ¬ 65536 < x.key.size by omega), if_neg (show ¬ 65536 < x.text.size by omega), if_pos (show fbad x = true by unfold fbad; simp only [h9_1, h9_5]; simp)]; rfl, HW5.out⟩
            · have h9_5p : x.text.toList = [] := by simpa using h9_5
              refine WL.val (by kernel_rfl) (.bool false) (by go_simp) ?_
              simp only [Act.put, List.setIfInBounds_toArray, List.set_cons_zero, List.set_cons_succ]
              refine WL.val (by kernel_rfl) (.bool false) (by go_simp) ?_
              simp only [Act.put, List.setIfInBounds_toArray, List.set_cons_zero, List.set_cons_succ]
              refine WL.val (by kernel_rfl) (.bool false) (by go_simp) ?_
              simp only [Act.put, List.setIfInBounds_toArray, List.set_cons_zero, List.set_cons_succ]
              refine WL.val (by kernel_rfl) (.pointer (some ⟨w.heap.size, 0, none⟩)) (by go_simp) ?_
              simp only [Act.put, List.setIfInBounds_toArray, List.set_cons_zero, List.set_cons_succ]
              refine WL.val (by kernel_rfl) (.int .i64 x.kind) (by go_simp) ?_
              simp only [Act.put, List.setIfInBounds_toArray, List.set_cons_zero, List.set_cons_succ]
              rcases Bool.eq_false_or_eq_true (!(x.kind == 6)) with h9_10 | h9_10
              · have h9_10p : ¬ x.kind = 6 := by simpa using h9_10
                refine WL.val (by kernel_rfl) (.bool true) (by go_simp) ?_
                simp only [Act.put, List.setIfInBounds_toArray, List.set_cons_zero, List.set_cons_succ]
                clear h9_10p
                refine WL.val (by kernel_rfl) (.bool true) (by go_simp) ?_
                simp only [Act.put, List.setIfInBounds_toArray, List.set_cons_zero, List.set_cons_succ]
                refine WL.val (by kernel_rfl) (.pointer (some ⟨w.heap.size, 3, none⟩)) (by go_simp) ?_
                simp only [Act.put, List.setIfInBounds_toArray, List.set_cons_zero, List.set_cons_succ]
                refine WL.val (by kernel_rfl) (.int .i64 x.n) (by go_simp) ?_
                simp only [Act.put, List.setIfInBounds_toArray, List.set_cons_zero, List.set_cons_succ]
                rcases Bool.eq_false_or_eq_true (!(x.n == 0)) with h9_14 | h9_14
                · have h9_14p : ¬ x.n = 0 := by simpa using h9_14
                  refine WL.val (by kernel_rfl) (.bool true) (by go_simp) ?_
                  simp only [Act.put, List.setIfInBounds_toArray, List.set_cons_zero, List.set_cons_succ]
                  refine WL.val (by kernel_rfl) (.bool true) (by go_simp) ?_
                  simp only [Act.put, List.setIfInBounds_toArray, List.set_cons_zero, List.set_cons_succ]
                  refine WL.val (by kernel_rfl) (.bool true) (by go_simp) ?_
                  simp only [Act.put, List.setIfInBounds_toArray, List.set_cons_zero, List.set_cons_succ]
                  refine WL.val (by kernel_rfl) (.bool true) (by go_simp) ?_
                  simp only [Act.put, List.setIfInBounds_toArray, List.set_cons_zero, List.set_cons_succ]
                  refine WL.skip (by kernel_rfl) ?_
                  simp only [Act.put, List.setIfInBounds_toArray, List.set_cons_zero, List.set_cons_succ]
                  refine WL.skip (by kernel_rfl) ?_
                  simp only [Act.put, List.setIfInBounds_toArray, List.set_cons_zero, List.set_cons_succ]
                  refine WL.skip (by kernel_rfl) ?_
                  simp only [Act.put, List.setIfInBounds_toArray, List.set_cons_zero, List.set_cons_succ]
                  refine WL.skip (by kernel_rfl) ?_
                  simp only [Act.put, List.setIfInBounds_toArray, List.set_cons_zero, List.set_cons_succ]
                  refine WL.skip (by kernel_rfl) ?_
                  simp only [Act.put, List.setIfInBounds_toArray, List.set_cons_zero, List.set_cons_succ]
                  refine WL.skip (by kernel_rfl) ?_
                  simp only [Act.put, List.setIfInBounds_toArray, List.set_cons_zero, List.set_cons_succ]
                  refine WL.val (by kernel_rfl) (.bool true) (by go_simp) ?_
                  simp only [Act.put, List.setIfInBounds_toArray, List.set_cons_zero, List.set_cons_succ]
                  refine WL.val (by kernel_rfl) (.bool true) (by go_simp) ?_
                  simp only [Act.put, List.setIfInBounds_toArray, List.set_cons_zero, List.set_cons_succ]
                  refine WL.nil ?_
                  refine hK13 _ _ ?_
                  refine wp_cond_true rfl ?_
                  refine wp_seq_k fun K15 hK15 => ?_
                  refine wp_region_list (WL.out ?_)
                  refine WL.val (by kernel_rfl) (.int .i64 41) (by go_simp) ?_
                  simp only [Act.put, List.setIfInBounds_toArray, List.set_cons_zero, List.set_cons_succ]
                  refine WL.nil ?_
                  refine hK15 _ _ ?_
                  refine wp_ret ?_
                  go_ret
                  exact ⟨by rw [HR.out, if_neg (show ¬ x.kind < 1 by omega), if_neg (show ¬ 9 < x.kind by omega), if_neg (show ¬ 65536 < x.key.size by omega), if_neg (show ¬ 65536 < x.text.size by omega), if_pos (show fbad x = true by unfold fbad; simp only [h9_1, h9_5, h9_10, h9_14]; simp)]; rfl, HW5.out⟩
                · have h9_14p : x.n = 0 := by simpa using h9_14
                  refine WL.val (by kernel_rfl) (.bool false) (by go_simp) ?_
                  simp only [Act.put, List.setIfInBounds_toArray, List.set_cons_zero, List.set_cons_succ]
                  refine WL.val (by kernel_rfl) (.bool false) (by go_simp) ?_
                  simp only [Act.put, List.setIfInBounds_toArray, List.set_cons_zero, List.set_cons_succ]
                  refine WL.val (by kernel_rfl) (.bool false) (by go_simp) ?_
                  simp only [Act.put, List.setIfInBounds_toArray, List.set_cons_zero, List.set_cons_succ]
                  refine WL.val (by kernel_rfl) (.bool false) (by go_simp) ?_
                  simp only [Act.put, List.setIfInBounds_toArray, List.set_cons_zero, List.set_cons_succ]
                  refine WL.val (by kernel_rfl) (.bool (hat x.kind)) (by go_simp) ?_
                  simp only [Act.put, List.setIfInBounds_toArray, List.set_cons_zero, List.set_cons_succ]
                  rcases Bool.eq_false_or_eq_true (!hat x.kind) with h9_19 | h9_19
                  · skip
                    refine WL.val (by kernel_rfl) (.bool true) (by go_simp) ?_
                    simp only [Act.put, List.setIfInBounds_toArray, List.set_cons_zero, List.set_cons_succ]
                    refine WL.val (by kernel_rfl) (.bool true) (by go_simp) ?_
                    simp only [Act.put, List.setIfInBounds_toArray, List.set_cons_zero, List.set_cons_succ]
                    refine WL.val (by kernel_rfl) (.bool (nd x.node z32 && x.op == 0)) (by go_simp) ?_
                    simp only [Act.put, List.setIfInBounds_toArray, List.set_cons_zero, List.set_cons_succ]
                    rcases Bool.eq_false_or_eq_true (!(nd x.node z32 && x.op == 0)) with h9_22 | h9_22
                    · skip
                      refine WL.val (by kernel_rfl) (.bool true) (by go_simp) ?_
                      simp only [Act.put, List.setIfInBounds_toArray, List.set_cons_zero, List.set_cons_succ]
                      refine WL.val (by kernel_rfl) (.bool true) (by go_simp) ?_
                      simp only [Act.put, List.setIfInBounds_toArray, List.set_cons_zero, List.set_cons_succ]
                      refine WL.val (by kernel_rfl) (.bool true) (by go_simp) ?_
                      simp only [Act.put, List.setIfInBounds_toArray, List.set_cons_zero, List.set_cons_succ]
                      refine WL.val (by kernel_rfl) (.bool true) (by go_simp) ?_
                      simp only [Act.put, List.setIfInBounds_toArray, List.set_cons_zero, List.set_cons_succ]
                      refine WL.nil ?_
                      refine hK13 _ _ ?_
                      refine wp_cond_true rfl ?_
                      refine wp_seq_k fun K16 hK16 => ?_
                      refine wp_region_list (WL.out ?_)
                      refine WL.val (by kernel_rfl) (.int .i64 41) (by go_simp) ?_
                      simp only [Act.put, List.setIfInBounds_toArray, List.set_cons_zero, List.set_cons_succ]
                      refine WL.nil ?_
                      refine hK16 _ _ ?_
                      refine wp_ret ?_
                      go_ret
                      exact ⟨by rw [HR.out, if_neg (show ¬ x.kind < 1 by omega), if_neg (show ¬ 9 < x.kind by omega), if_neg (show ¬ 65536 < x.key.size by omega), if_neg (show ¬ 65536 < x.text.size by omega), if_pos (show fbad x = true by unfold fbad; simp only [h9_1, h9_5, h9_10, h9_14, h9_19, h9_22]; simp)]; rfl, HW5.out⟩
                    · skip
                      refine WL.val (by kernel_rfl) (.bool false) (by go_simp) ?_
                      simp only [Act.put, List.setIfInBounds_toArray, List.set_cons_zero, List.set_cons_succ]
                      refine WL.val (by kernel_rfl) (.bool false) (by go_simp) ?_
                      simp only [Act.put, List.setIfInBounds_toArray, List.set_cons_zero, List.set_cons_succ]
                      refine WL.val (by kernel_rfl) (.bool false) (by go_simp) ?_
                      simp only [Act.put, List.setIfInBounds_toArray, List.set_cons_zero, List.set_cons_succ]
                      refine WL.val (by kernel_rfl) (.bool false) (by go_simp) ?_
                      simp only [Act.put, List.setIfInBounds_toArray, List.set_cons_zero, List.set_cons_succ]
                      refine WL.nil ?_
                      refine hK13 _ _ ?_
                      refine wp_cond_false rfl ?_
                      refine wp_skip ?_
                      refine hK6 _ _ ?_
                      refine wp_seq_k fun K17 hK17 => ?_
                      refine wp_seq_k fun K18 hK18 => ?_
                      refine wp_region_list (WL.out ?_)
                      have hhat : hat x.kind = false := by simpa using h9_19
                      rw [hhat]
                      refine WL.val (by kernel_rfl) (.bool false) (by go_simp) ?_
                      simp only [Act.put, List.setIfInBounds_toArray, List.set_cons_zero, List.set_cons_succ]
                      refine WL.nil ?_
                      refine hK18 _ _ ?_
                      refine wp_cond_false rfl ?_
                      refine wp_skip ?_
                      refine hK17 _ _ ?_
                      refine wp_seq_k fun K19 hK19 => ?_
                      refine wp_region_list (WL.out ?_)
                      refine WL.val (by kernel_rfl) (.int .i64 0) (by go_simp) ?_
                      simp only [Act.put, List.setIfInBounds_toArray, List.set_cons_zero, List.set_cons_succ]
                      refine WL.nil ?_
                      refine hK19 _ _ ?_
                      refine wp_ret ?_
                      go_ret
                      exact ⟨by rw [HR.out, if_neg (show ¬ x.kind < 1 by omega), if_neg (show ¬ 9 < x.kind by omega), if_neg (show ¬ 65536 < x.key.size by omega), if_neg (show ¬ 65536 < x.text.size by omega), if_neg (show ¬ fbad x = true by unfold fbad; simp only [h9_1, h9_5, h9_10, h9_14, h9_19, h9_22]; simp), if_neg (show ¬ hat x.kind = true by rw [hhat]; decide)]; rfl, HW5.out⟩
                  · skip
                    refine WL.val (by kernel_rfl) (.bool false) (by go_simp) ?_
                    simp only [Act.put, List.setIfInBounds_toArray, List.set_cons_zero, List.set_cons_succ]
                    refine WL.val (by kernel_rfl) (.bool false) (by go_simp) ?_
                    simp only [Act.put, List.setIfInBounds_toArray, List.set_cons_zero, List.set_cons_succ]
                    refine WL.skip (by kernel_rfl) ?_
                    simp only [Act.put, List.setIfInBounds_toArray, List.set_cons_zero, List.set_cons_succ]
                    refine WL.skip (by kernel_rfl) ?_
                    simp only [Act.put, List.setIfInBounds_toArray, List.set_cons_zero, List.set_cons_succ]
                    refine WL.val (by kernel_rfl) (.bool false) (by go_simp) ?_
                    simp only [Act.put, List.setIfInBounds_toArray, List.set_cons_zero, List.set_cons_succ]
                    refine WL.val (by kernel_rfl) (.bool false) (by go_simp) ?_
                    simp only [Act.put, List.setIfInBounds_toArray, List.set_cons_zero, List.set_cons_succ]
                    refine WL.val (by kernel_rfl) (.bool false) (by go_simp) ?_
                    simp only [Act.put, List.setIfInBounds_toArray, List.set_cons_zero, List.set_cons_succ]
                    refine WL.nil ?_
                    refine hK13 _ _ ?_
                    refine wp_cond_false rfl ?_
                    refine wp_skip ?_
                    refine hK6 _ _ ?_
                    refine wp_seq_k fun K20 hK20 => ?_
                    refine wp_seq_k fun K21 hK21 => ?_
                    refine wp_region_list (WL.out ?_)
                    have hhat : hat x.kind = true := by simpa using h9_19
                    rw [hhat]
                    refine WL.val (by kernel_rfl) (.bool true) (by go_simp) ?_
                    simp only [Act.put, List.setIfInBounds_toArray, List.set_cons_zero, List.set_cons_succ]
                    refine WL.nil ?_
                    refine hK21 _ _ ?_
                    refine wp_cond_true rfl ?_
                    refine wp_seq_k fun K22 hK22 => ?_
                    refine wp_region_list (WL.out ?_)
                    refine WL.val (by kernel_rfl) (.slice va l.length vc) (by go_simp) ?_
                    simp only [Act.put, List.setIfInBounds_toArray, List.set_cons_zero, List.set_cons_succ]
                    refine WL.val (by kernel_rfl) (.int .i64 (i : Int)) (by go_simp) ?_
                    simp only [Act.put, List.setIfInBounds_toArray, List.set_cons_zero, List.set_cons_succ]
                    refine WL.callF (by kernel_rfl) 58 _ _ rfl Try.in58 #[.slice va l.length vc, .int .i64 (i : Int)] (by simp [Act.eval]) ?_
                    refine (rmay_any _ l i w5 (HL.out.below HW5.out) Hi.out Hlb.out (by rw [← hx0.out]; exact Hok.out)).mono ?_
                    rintro e w6 ⟨rfl, h6⟩
                    rw [← hx0.out]
                    refine ⟨_, rfl, ?_⟩
                    have HW6 := Keep.mk (HW5.out.trans (h6.mono HW5.out.size))
                    clear h6
                    simp only [Act.put, List.setIfInBounds_toArray, List.set_cons_zero, List.set_cons_succ]
                    refine WL.val (by kernel_rfl) (.bool (mayAt (l.take i) x)) (by go_simp) ?_
                    simp only [Act.put, List.setIfInBounds_toArray, List.set_cons_zero, List.set_cons_succ]
                    refine WL.nil ?_
                    refine hK22 _ _ ?_
                    refine wp_seq_k fun K23 hK23 => ?_
                    refine wp_region_list (WL.out ?_)
                    refine WL.val (by kernel_rfl) (.bool (mayAt (l.take i) x)) (by go_simp) ?_
                    simp only [Act.put, List.setIfInBounds_toArray, List.set_cons_zero, List.set_cons_succ]
                    rcases Bool.eq_false_or_eq_true (!mayAt (l.take i) x) with h13_1 | h13_1
                    · skip
                      refine WL.val (by kernel_rfl) (.bool true) (by go_simp) ?_
                      simp only [Act.put, List.setIfInBounds_toArray, List.set_cons_zero, List.set_cons_succ]
                      refine WL.nil ?_
                      refine hK23 _ _ ?_
                      refine wp_cond_true rfl ?_
                      refine wp_seq_k fun K24 hK24 => ?_
                      refine wp_region_list (WL.out ?_)
                      refine WL.val (by kernel_rfl) (.int .i64 42) (by go_simp) ?_
                      simp only [Act.put, List.setIfInBounds_toArray, List.set_cons_zero, List.set_cons_succ]
                      refine WL.nil ?_
                      refine hK24 _ _ ?_
                      refine wp_ret ?_
                      go_ret
                      exact ⟨by rw [HR.out, if_neg (show ¬ x.kind < 1 by omega), if_neg (show ¬ 9 < x.kind by omega), if_neg (show ¬ 65536 < x.key.size by omega), if_neg (show ¬ 65536 < x.text.size by omega), if_neg (show ¬ fbad x = true by unfold fbad; simp only [h9_1, h9_5, h9_10, h9_14, h9_19]; simp), if_pos (show hat x.kind = true by rw [hhat]), if_neg (show ¬ mayAt (l.take i) x = true by simpa using h13_1)]; rfl, HW6.out⟩
                    · skip
                      refine WL.val (by kernel_rfl) (.bool false) (by go_simp) ?_
                      simp only [Act.put, List.setIfInBounds_toArray, List.set_cons_zero, List.set_cons_succ]
                      refine WL.nil ?_
                      refine hK23 _ _ ?_
                      refine wp_cond_false rfl ?_
                      refine wp_skip ?_
                      refine hK20 _ _ ?_
                      refine wp_seq_k fun K25 hK25 => ?_
                      refine wp_region_list (WL.out ?_)
                      refine WL.val (by kernel_rfl) (.int .i64 0) (by go_simp) ?_
                      simp only [Act.put, List.setIfInBounds_toArray, List.set_cons_zero, List.set_cons_succ]
                      refine WL.nil ?_
                      refine hK25 _ _ ?_
                      refine wp_ret ?_
                      go_ret
                      exact ⟨by rw [HR.out, if_neg (show ¬ x.kind < 1 by omega), if_neg (show ¬ 9 < x.kind by omega), if_neg (show ¬ 65536 < x.key.size by omega), if_neg (show ¬ 65536 < x.text.size by omega), if_neg (show ¬ fbad x = true by unfold fbad; simp only [h9_1, h9_5, h9_10, h9_14, h9_19]; simp), if_pos (show hat x.kind = true by rw [hhat]), if_pos (show mayAt (l.take i) x = true by simpa using h13_1)]; rfl, HW6.out⟩
              · have h9_10p : x.kind = 6 := by simpa using h9_10
                refine WL.val (by kernel_rfl) (.bool false) (by go_simp) ?_
                simp only [Act.put, List.setIfInBounds_toArray, List.set_cons_zero, List.set_cons_succ]
                clear h9_10p
                refine WL.val (by kernel_rfl) (.bool false) (by go_simp) ?_
                simp only [Act.put, List.setIfInBounds_toArray, List.set_cons_zero, List.set_cons_succ]
                refine WL.skip (by kernel_rfl) ?_
                simp only [Act.put, List.setIfInBounds_toArray, List.set_cons_zero, List.set_cons_succ]
                refine WL.skip (by kernel_rfl) ?_
                simp only [Act.put, List.setIfInBounds_toArray, List.set_cons_zero, List.set_cons_succ]
                refine WL.skip (by kernel_rfl) ?_
                simp only [Act.put, List.setIfInBounds_toArray, List.set_cons_zero, List.set_cons_succ]
                refine WL.val (by kernel_rfl) (.bool false) (by go_simp) ?_
                simp only [Act.put, List.setIfInBounds_toArray, List.set_cons_zero, List.set_cons_succ]
                refine WL.val (by kernel_rfl) (.bool false) (by go_simp) ?_
                simp only [Act.put, List.setIfInBounds_toArray, List.set_cons_zero, List.set_cons_succ]
                refine WL.val (by kernel_rfl) (.bool false) (by go_simp) ?_
                simp only [Act.put, List.setIfInBounds_toArray, List.set_cons_zero, List.set_cons_succ]
                refine WL.val (by kernel_rfl) (.bool (hat x.kind)) (by go_simp) ?_
                simp only [Act.put, List.setIfInBounds_toArray, List.set_cons_zero, List.set_cons_succ]
                rcases Bool.eq_false_or_eq_true (!hat x.kind) with h9_19 | h9_19
                · skip
                  refine WL.val (by kernel_rfl) (.bool true) (by go_simp) ?_
                  simp only [Act.put, List.setIfInBounds_toArray, List.set_cons_zero, List.set_cons_succ]
                  refine WL.val (by kernel_rfl) (.bool true) (by go_simp) ?_
                  simp only [Act.put, List.setIfInBounds_toArray, List.set_cons_zero, List.set_cons_succ]
                  refine WL.val (by kernel_rfl) (.bool (nd x.node z32 && x.op == 0)) (by go_simp) ?_
                  simp only [Act.put, List.setIfInBounds_toArray, List.set_cons_zero, List.set_cons_succ]
                  rcases Bool.eq_false_or_eq_true (!(nd x.node z32 && x.op == 0)) with h9_22 | h9_22
                  · skip
                    refine WL.val (by kernel_rfl) (.bool true) (by go_simp) ?_
                    simp only [Act.put, List.setIfInBounds_toArray, List.set_cons_zero, List.set_cons_succ]
                    refine WL.val (by kernel_rfl) (.bool true) (by go_simp) ?_
                    simp only [Act.put, List.setIfInBounds_toArray, List.set_cons_zero, List.set_cons_succ]
                    refine WL.val (by kernel_rfl) (.bool true) (by go_simp) ?_
                    simp only [Act.put, List.setIfInBounds_toArray, List.set_cons_zero, List.set_cons_succ]
                    refine WL.val (by kernel_rfl) (.bool true) (by go_simp) ?_
                    simp only [Act.put, List.setIfInBounds_toArray, List.set_cons_zero, List.set_cons_succ]
                    refine WL.nil ?_
                    refine hK13 _ _ ?_
                    refine wp_cond_true rfl ?_
                    refine wp_seq_k fun K26 hK26 => ?_
                    refine wp_region_list (WL.out ?_)
                    refine WL.val (by kernel_rfl) (.int .i64 41) (by go_simp) ?_
                    simp only [Act.put, List.setIfInBounds_toArray, List.set_cons_zero, List.set_cons_succ]
                    refine WL.nil ?_
                    refine hK26 _ _ ?_
                    refine wp_ret ?_
                    go_ret
                    exact ⟨by rw [HR.out, if_neg (show ¬ x.kind < 1 by omega), if_neg (show ¬ 9 < x.kind by omega), if_neg (show ¬ 65536 < x.key.size by omega), if_neg (show ¬ 65536 < x.text.size by omega), if_pos (show fbad x = true by unfold fbad; simp only [h9_1, h9_5, h9_10, h9_19, h9_22]; simp)]; rfl, HW5.out⟩
                  · skip
                    refine WL.val (by kernel_rfl) (.bool false) (by go_simp) ?_
                    simp only [Act.put, List.setIfInBounds_toArray, List.set_cons_zero, List.set_cons_succ]
                    refine WL.val (by kernel_rfl) (.bool false) (by go_simp) ?_
                    simp only [Act.put, List.setIfInBounds_toArray, List.set_cons_zero, List.set_cons_succ]
                    refine WL.val (by kernel_rfl) (.bool false) (by go_simp) ?_
                    simp only [Act.put, List.setIfInBounds_toArray, List.set_cons_zero, List.set_cons_succ]
                    refine WL.val (by kernel_rfl) (.bool false) (by go_simp) ?_
                    simp only [Act.put, List.setIfInBounds_toArray, List.set_cons_zero, List.set_cons_succ]
                    refine WL.nil ?_
                    refine hK13 _ _ ?_
                    refine wp_cond_false rfl ?_
                    refine wp_skip ?_
                    refine hK6 _ _ ?_
                    refine wp_seq_k fun K27 hK27 => ?_
                    refine wp_seq_k fun K28 hK28 => ?_
                    refine wp_region_list (WL.out ?_)
                    have hhat : hat x.kind = false := by simpa using h9_19
                    rw [hhat]
                    refine WL.val (by kernel_rfl) (.bool false) (by go_simp) ?_
                    simp only [Act.put, List.setIfInBounds_toArray, List.set_cons_zero, List.set_cons_succ]
                    refine WL.nil ?_
                    refine hK28 _ _ ?_
                    refine wp_cond_false rfl ?_
                    refine wp_skip ?_
                    refine hK27 _ _ ?_
                    refine wp_seq_k fun K29 hK29 => ?_
                    refine wp_region_list (WL.out ?_)
                    refine WL.val (by kernel_rfl) (.int .i64 0) (by go_simp) ?_
                    simp only [Act.put, List.setIfInBounds_toArray, List.set_cons_zero, List.set_cons_succ]
                    refine WL.nil ?_
                    refine hK29 _ _ ?_
                    refine wp_ret ?_
                    go_ret
                    exact ⟨by rw [HR.out, if_neg (show ¬ x.kind < 1 by omega), if_neg (show ¬ 9 < x.kind by omega), if_neg (show ¬ 65536 < x.key.size by omega), if_neg (show ¬ 65536 < x.text.size by omega), if_neg (show ¬ fbad x = true by unfold fbad; simp only [h9_1, h9_5, h9_10, h9_19, h9_22]; simp), if_neg (show ¬ hat x.kind = true by rw [hhat]; decide)]; rfl, HW5.out⟩
                · skip
                  refine WL.val (by kernel_rfl) (.bool false) (by go_simp) ?_
                  simp only [Act.put, List.setIfInBounds_toArray, List.set_cons_zero, List.set_cons_succ]
                  refine WL.val (by kernel_rfl) (.bool false) (by go_simp) ?_
                  simp only [Act.put, List.setIfInBounds_toArray, List.set_cons_zero, List.set_cons_succ]
                  refine WL.skip (by kernel_rfl) ?_
                  simp only [Act.put, List.setIfInBounds_toArray, List.set_cons_zero, List.set_cons_succ]
                  refine WL.skip (by kernel_rfl) ?_
                  simp only [Act.put, List.setIfInBounds_toArray, List.set_cons_zero, List.set_cons_succ]
                  refine WL.val (by kernel_rfl) (.bool false) (by go_simp) ?_
                  simp only [Act.put, List.setIfInBounds_toArray, List.set_cons_zero, List.set_cons_succ]
                  refine WL.val (by kernel_rfl) (.bool false) (by go_simp) ?_
                  simp only [Act.put, List.setIfInBounds_toArray, List.set_cons_zero, List.set_cons_succ]
                  refine WL.val (by kernel_rfl) (.bool false) (by go_simp) ?_
                  simp only [Act.put, List.setIfInBounds_toArray, List.set_cons_zero, List.set_cons_succ]
                  refine WL.nil ?_
                  refine hK13 _ _ ?_
                  refine wp_cond_false rfl ?_
                  refine wp_skip ?_
                  refine hK6 _ _ ?_
                  refine wp_seq_k fun K30 hK30 => ?_
                  refine wp_seq_k fun K31 hK31 => ?_
                  refine wp_region_list (WL.out ?_)
                  have hhat : hat x.kind = true := by simpa using h9_19
                  rw [hhat]
                  refine WL.val (by kernel_rfl) (.bool true) (by go_simp) ?_
                  simp only [Act.put, List.setIfInBounds_toArray, List.set_cons_zero, List.set_cons_succ]
                  refine WL.nil ?_
                  refine hK31 _ _ ?_
                  refine wp_cond_true rfl ?_
                  refine wp_seq_k fun K32 hK32 => ?_
                  refine wp_region_list (WL.out ?_)
                  refine WL.val (by kernel_rfl) (.slice va l.length vc) (by go_simp) ?_
                  simp only [Act.put, List.setIfInBounds_toArray, List.set_cons_zero, List.set_cons_succ]
                  refine WL.val (by kernel_rfl) (.int .i64 (i : Int)) (by go_simp) ?_
                  simp only [Act.put, List.setIfInBounds_toArray, List.set_cons_zero, List.set_cons_succ]
                  refine WL.callF (by kernel_rfl) 58 _ _ rfl Try.in58 #[.slice va l.length vc, .int .i64 (i : Int)] (by simp [Act.eval]) ?_
                  refine (rmay_any _ l i w5 (HL.out.below HW5.out) Hi.out Hlb.out (by rw [← hx0.out]; exact Hok.out)).mono ?_
                  rintro e w6 ⟨rfl, h6⟩
                  rw [← hx0.out]
                  refine ⟨_, rfl, ?_⟩
                  have HW6 := Keep.mk (HW5.out.trans (h6.mono HW5.out.size))
                  clear h6
                  simp only [Act.put, List.setIfInBounds_toArray, List.set_cons_zero, List.set_cons_succ]
                  refine WL.val (by kernel_rfl) (.bool (mayAt (l.take i) x)) (by go_simp) ?_
                  simp only [Act.put, List.setIfInBounds_toArray, List.set_cons_zero, List.set_cons_succ]
                  refine WL.nil ?_
                  refine hK32 _ _ ?_
                  refine wp_seq_k fun K33 hK33 => ?_
                  refine wp_region_list (WL.out ?_)
                  refine WL.val (by kernel_rfl) (.bool (mayAt (l.take i) x)) (by go_simp) ?_
                  simp only [Act.put, List.setIfInBounds_toArray, List.set_cons_zero, List.set_cons_succ]
                  rcases Bool.eq_false_or_eq_true (!mayAt (l.take i) x) with h13_1 | h13_1
                  · skip
                    refine WL.val (by kernel_rfl) (.bool true) (by go_simp) ?_
                    simp only [Act.put, List.setIfInBounds_toArray, List.set_cons_zero, List.set_cons_succ]
                    refine WL.nil ?_
                    refine hK33 _ _ ?_
                    refine wp_cond_true rfl ?_
                    refine wp_seq_k fun K34 hK34 => ?_
                    refine wp_region_list (WL.out ?_)
                    refine WL.val (by kernel_rfl) (.int .i64 42) (by go_simp) ?_
                    simp only [Act.put, List.setIfInBounds_toArray, List.set_cons_zero, List.set_cons_succ]
                    refine WL.nil ?_
                    refine hK34 _ _ ?_
                    refine wp_ret ?_
                    go_ret
                    exact ⟨by rw [HR.out, if_neg (show ¬ x.kind < 1 by omega), if_neg (show ¬ 9 < x.kind by omega), if_neg (show ¬ 65536 < x.key.size by omega), if_neg (show ¬ 65536 < x.text.size by omega), if_neg (show ¬ fbad x = true by unfold fbad; simp only [h9_1, h9_5, h9_10, h9_19]; simp), if_pos (show hat x.kind = true by rw [hhat]), if_neg (show ¬ mayAt (l.take i) x = true by simpa using h13_1)]; rfl, HW6.out⟩
                  · skip
                    refine WL.val (by kernel_rfl) (.bool false) (by go_simp) ?_
                    simp only [Act.put, List.setIfInBounds_toArray, List.set_cons_zero, List.set_cons_succ]
                    refine WL.nil ?_
                    refine hK33 _ _ ?_
                    refine wp_cond_false rfl ?_
                    refine wp_skip ?_
                    refine hK30 _ _ ?_
                    refine wp_seq_k fun K35 hK35 => ?_
                    refine wp_region_list (WL.out ?_)
                    refine WL.val (by kernel_rfl) (.int .i64 0) (by go_simp) ?_
                    simp only [Act.put, List.setIfInBounds_toArray, List.set_cons_zero, List.set_cons_succ]
                    refine WL.nil ?_
                    refine hK35 _ _ ?_
                    refine wp_ret ?_
                    go_ret
                    exact ⟨by rw [HR.out, if_neg (show ¬ x.kind < 1 by omega), if_neg (show ¬ 9 < x.kind by omega), if_neg (show ¬ 65536 < x.key.size by omega), if_neg (show ¬ 65536 < x.text.size by omega), if_neg (show ¬ fbad x = true by unfold fbad; simp only [h9_1, h9_5, h9_10, h9_19]; simp), if_pos (show hat x.kind = true by rw [hhat]), if_pos (show mayAt (l.take i) x = true by simpa using h13_1)]; rfl, HW6.out⟩
          · skip
            refine WL.val (by kernel_rfl) (.bool false) (by go_simp) ?_
            simp only [Act.put, List.setIfInBounds_toArray, List.set_cons_zero, List.set_cons_succ]
            refine WL.val (by kernel_rfl) (.bool false) (by go_simp) ?_
            simp only [Act.put, List.setIfInBounds_toArray, List.set_cons_zero, List.set_cons_succ]
            refine WL.skip (by kernel_rfl) ?_
            simp only [Act.put, List.setIfInBounds_toArray, List.set_cons_zero, List.set_cons_succ]
            refine WL.skip (by kernel_rfl) ?_
            simp only [Act.put, List.setIfInBounds_toArray, List.set_cons_zero, List.set_cons_succ]
            refine WL.skip (by kernel_rfl) ?_
            simp only [Act.put, List.setIfInBounds_toArray, List.set_cons_zero, List.set_cons_succ]
            refine WL.val (by kernel_rfl) (.bool false) (by go_simp) ?_
            simp only [Act.put, List.setIfInBounds_toArray, List.set_cons_zero, List.set_cons_succ]
            refine WL.val (by kernel_rfl) (.bool false) (by go_simp) ?_
            simp only [Act.put, List.setIfInBounds_toArray, List.set_cons_zero, List.set_cons_succ]
            refine WL.val (by kernel_rfl) (.pointer (some ⟨w.heap.size, 0, none⟩)) (by go_simp) ?_
            simp only [Act.put, List.setIfInBounds_toArray, List.set_cons_zero, List.set_cons_succ]
            refine WL.val (by kernel_rfl) (.int .i64 x.kind) (by go_simp) ?_
            simp only [Act.put, List.setIfInBounds_toArray, List.set_cons_zero, List.set_cons_succ]
            rcases Bool.eq_false_or_eq_true (!(x.kind == 6)) with h9_10 | h9_10
            · have h9_10p : ¬ x.kind = 6 := by simpa using h9_10
              refine WL.val (by kernel_rfl) (.bool true) (by go_simp) ?_
              simp only [Act.put, List.setIfInBounds_toArray, List.set_cons_zero, List.set_cons_succ]
              clear h9_10p
              refine WL.val (by kernel_rfl) (.bool true) (by go_simp) ?_
              simp only [Act.put, List.setIfInBounds_toArray, List.set_cons_zero, List.set_cons_succ]
              refine WL.val (by kernel_rfl) (.pointer (some ⟨w.heap.size, 3, none⟩)) (by go_simp) ?_
              simp only [Act.put, List.setIfInBounds_toArray, List.set_cons_zero, List.set_cons_succ]
              refine WL.val (by kernel_rfl) (.int .i64 x.n) (by go_simp) ?_
              simp only [Act.put, List.setIfInBounds_toArray, List.set_cons_zero, List.set_cons_succ]
              rcases Bool.eq_false_or_eq_true (!(x.n == 0)) with h9_14 | h9_14
              · have h9_14p : ¬ x.n = 0 := by simpa using h9_14
                refine WL.val (by kernel_rfl) (.bool true) (by go_simp) ?_
                simp only [Act.put, List.setIfInBounds_toArray, List.set_cons_zero, List.set_cons_succ]
                refine WL.val (by kernel_rfl) (.bool true) (by go_simp) ?_
                simp only [Act.put, List.setIfInBounds_toArray, List.set_cons_zero, List.set_cons_succ]
                refine WL.val (by kernel_rfl) (.bool true) (by go_simp) ?_
                simp only [Act.put, List.setIfInBounds_toArray, List.set_cons_zero, List.set_cons_succ]
                refine WL.val (by kernel_rfl) (.bool true) (by go_simp) ?_
                simp only [Act.put, List.setIfInBounds_toArray, List.set_cons_zero, List.set_cons_succ]
                refine WL.skip (by kernel_rfl) ?_
                simp only [Act.put, List.setIfInBounds_toArray, List.set_cons_zero, List.set_cons_succ]
                refine WL.skip (by kernel_rfl) ?_
                simp only [Act.put, List.setIfInBounds_toArray, List.set_cons_zero, List.set_cons_succ]
                refine WL.skip (by kernel_rfl) ?_
                simp only [Act.put, List.setIfInBounds_toArray, List.set_cons_zero, List.set_cons_succ]
                refine WL.skip (by kernel_rfl) ?_
                simp only [Act.put, List.setIfInBounds_toArray, List.set_cons_zero, List.set_cons_succ]
                refine WL.skip (by kernel_rfl) ?_
                simp only [Act.put, List.setIfInBounds_toArray, List.set_cons_zero, List.set_cons_succ]
                refine WL.skip (by kernel_rfl) ?_
                simp only [Act.put, List.setIfInBounds_toArray, List.set_cons_zero, List.set_cons_succ]
                refine WL.val (by kernel_rfl) (.bool true) (by go_simp) ?_
                simp only [Act.put, List.setIfInBounds_toArray, List.set_cons_zero, List.set_cons_succ]
                refine WL.val (by kernel_rfl) (.bool true) (by go_simp) ?_
                simp only [Act.put, List.setIfInBounds_toArray, List.set_cons_zero, List.set_cons_succ]
                refine WL.nil ?_
                refine hK13 _ _ ?_
                refine wp_cond_true rfl ?_
                refine wp_seq_k fun K36 hK36 => ?_
                refine wp_region_list (WL.out ?_)
                refine WL.val (by kernel_rfl) (.int .i64 41) (by go_simp) ?_
                simp only [Act.put, List.setIfInBounds_toArray, List.set_cons_zero, List.set_cons_succ]
                refine WL.nil ?_
                refine hK36 _ _ ?_
                refine wp_ret ?_
                go_ret
                exact ⟨by rw [HR.out, if_neg (show ¬ x.kind < 1 by omega), if_neg (show ¬ 9 < x.kind by omega), if_neg (show ¬ 65536 < x.key.size by omega), if_neg (show ¬ 65536 < x.text.size by omega), if_pos (show fbad x = true by unfold fbad; simp only [h9_1, h9_10, h9_14]; simp)]; rfl, HW5.out⟩
              · have h9_14p : x.n = 0 := by simpa using h9_14
                refine WL.val (by kernel_rfl) (.bool false) (by go_simp) ?_
                simp only [Act.put, List.setIfInBounds_toArray, List.set_cons_zero, List.set_cons_succ]
                refine WL.val (by kernel_rfl) (.bool false) (by go_simp) ?_
                simp only [Act.put, List.setIfInBounds_toArray, List.set_cons_zero, List.set_cons_succ]
                refine WL.val (by kernel_rfl) (.bool false) (by go_simp) ?_
                simp only [Act.put, List.setIfInBounds_toArray, List.set_cons_zero, List.set_cons_succ]
                refine WL.val (by kernel_rfl) (.bool false) (by go_simp) ?_
                simp only [Act.put, List.setIfInBounds_toArray, List.set_cons_zero, List.set_cons_succ]
                refine WL.val (by kernel_rfl) (.bool (hat x.kind)) (by go_simp) ?_
                simp only [Act.put, List.setIfInBounds_toArray, List.set_cons_zero, List.set_cons_succ]
                rcases Bool.eq_false_or_eq_true (!hat x.kind) with h9_19 | h9_19
                · skip
                  refine WL.val (by kernel_rfl) (.bool true) (by go_simp) ?_
                  simp only [Act.put, List.setIfInBounds_toArray, List.set_cons_zero, List.set_cons_succ]
                  refine WL.val (by kernel_rfl) (.bool true) (by go_simp) ?_
                  simp only [Act.put, List.setIfInBounds_toArray, List.set_cons_zero, List.set_cons_succ]
                  refine WL.val (by kernel_rfl) (.bool (nd x.node z32 && x.op == 0)) (by go_simp) ?_
                  simp only [Act.put, List.setIfInBounds_toArray, List.set_cons_zero, List.set_cons_succ]
                  rcases Bool.eq_false_or_eq_true (!(nd x.node z32 && x.op == 0)) with h9_22 | h9_22
                  · skip
                    refine WL.val (by kernel_rfl) (.bool true) (by go_simp) ?_
                    simp only [Act.put, List.setIfInBounds_toArray, List.set_cons_zero, List.set_cons_succ]
                    refine WL.val (by kernel_rfl) (.bool true) (by go_simp) ?_
                    simp only [Act.put, List.setIfInBounds_toArray, List.set_cons_zero, List.set_cons_succ]
                    refine WL.val (by kernel_rfl) (.bool true) (by go_simp) ?_
                    simp only [Act.put, List.setIfInBounds_toArray, List.set_cons_zero, List.set_cons_succ]
                    refine WL.val (by kernel_rfl) (.bool true) (by go_simp) ?_
                    simp only [Act.put, List.setIfInBounds_toArray, List.set_cons_zero, List.set_cons_succ]
                    refine WL.nil ?_
                    refine hK13 _ _ ?_
                    refine wp_cond_true rfl ?_
                    refine wp_seq_k fun K37 hK37 => ?_
                    refine wp_region_list (WL.out ?_)
                    refine WL.val (by kernel_rfl) (.int .i64 41) (by go_simp) ?_
                    simp only [Act.put, List.setIfInBounds_toArray, List.set_cons_zero, List.set_cons_succ]
                    refine WL.nil ?_
                    refine hK37 _ _ ?_
                    refine wp_ret ?_
                    go_ret
                    exact ⟨by rw [HR.out, if_neg (show ¬ x.kind < 1 by omega), if_neg (show ¬ 9 < x.kind by omega), if_neg (show ¬ 65536 < x.key.size by omega), if_neg (show ¬ 65536 < x.text.size by omega), if_pos (show fbad x = true by unfold fbad; simp only [h9_1, h9_10, h9_14, h9_19, h9_22]; simp)]; rfl, HW5.out⟩
                  · skip
                    refine WL.val (by kernel_rfl) (.bool false) (by go_simp) ?_
                    simp only [Act.put, List.setIfInBounds_toArray, List.set_cons_zero, List.set_cons_succ]
                    refine WL.val (by kernel_rfl) (.bool false) (by go_simp) ?_
                    simp only [Act.put, List.setIfInBounds_toArray, List.set_cons_zero, List.set_cons_succ]
                    refine WL.val (by kernel_rfl) (.bool false) (by go_simp) ?_
                    simp only [Act.put, List.setIfInBounds_toArray, List.set_cons_zero, List.set_cons_succ]
                    refine WL.val (by kernel_rfl) (.bool false) (by go_simp) ?_
                    simp only [Act.put, List.setIfInBounds_toArray, List.set_cons_zero, List.set_cons_succ]
                    refine WL.nil ?_
                    refine hK13 _ _ ?_
                    refine wp_cond_false rfl ?_
                    refine wp_skip ?_
                    refine hK6 _ _ ?_
                    refine wp_seq_k fun K38 hK38 => ?_
                    refine wp_seq_k fun K39 hK39 => ?_
                    refine wp_region_list (WL.out ?_)
                    have hhat : hat x.kind = false := by simpa using h9_19
                    rw [hhat]
                    refine WL.val (by kernel_rfl) (.bool false) (by go_simp) ?_
                    simp only [Act.put, List.setIfInBounds_toArray, List.set_cons_zero, List.set_cons_succ]
                    refine WL.nil ?_
                    refine hK39 _ _ ?_
                    refine wp_cond_false rfl ?_
                    refine wp_skip ?_
                    refine hK38 _ _ ?_
                    refine wp_seq_k fun K40 hK40 => ?_
                    refine wp_region_list (WL.out ?_)
                    refine WL.val (by kernel_rfl) (.int .i64 0) (by go_simp) ?_
                    simp only [Act.put, List.setIfInBounds_toArray, List.set_cons_zero, List.set_cons_succ]
                    refine WL.nil ?_
                    refine hK40 _ _ ?_
                    refine wp_ret ?_
                    go_ret
                    exact ⟨by rw [HR.out, if_neg (show ¬ x.kind < 1 by omega), if_neg (show ¬ 9 < x.kind by omega), if_neg (show ¬ 65536 < x.key.size by omega), if_neg (show ¬ 65536 < x.text.size by omega), if_neg (show ¬ fbad x = true by unfold fbad; simp only [h9_1, h9_10, h9_14, h9_19, h9_22]; simp), if_neg (show ¬ hat x.kind = true by rw [hhat]; decide)]; rfl, HW5.out⟩
                · skip
                  refine WL.val (by kernel_rfl) (.bool false) (by go_simp) ?_
                  simp only [Act.put, List.setIfInBounds_toArray, List.set_cons_zero, List.set_cons_succ]
                  refine WL.val (by kernel_rfl) (.bool false) (by go_simp) ?_
                  simp only [Act.put, List.setIfInBounds_toArray, List.set_cons_zero, List.set_cons_succ]
                  refine WL.skip (by kernel_rfl) ?_
                  simp only [Act.put, List.setIfInBounds_toArray, List.set_cons_zero, List.set_cons_succ]
                  refine WL.skip (by kernel_rfl) ?_
                  simp only [Act.put, List.setIfInBounds_toArray, List.set_cons_zero, List.set_cons_succ]
                  refine WL.val (by kernel_rfl) (.bool false) (by go_simp) ?_
                  simp only [Act.put, List.setIfInBounds_toArray, List.set_cons_zero, List.set_cons_succ]
                  refine WL.val (by kernel_rfl) (.bool false) (by go_simp) ?_
                  simp only [Act.put, List.setIfInBounds_toArray, List.set_cons_zero, List.set_cons_succ]
                  refine WL.val (by kernel_rfl) (.bool false) (by go_simp) ?_
                  simp only [Act.put, List.setIfInBounds_toArray, List.set_cons_zero, List.set_cons_succ]
                  refine WL.nil ?_
                  refine hK13 _ _ ?_
                  refine wp_cond_false rfl ?_
                  refine wp_skip ?_
                  refine hK6 _ _ ?_
                  refine wp_seq_k fun K41 hK41 => ?_
                  refine wp_seq_k fun K42 hK42 => ?_
                  refine wp_region_list (WL.out ?_)
                  have hhat : hat x.kind = true := by simpa using h9_19
                  rw [hhat]
                  refine WL.val (by kernel_rfl) (.bool true) (by go_simp) ?_
                  simp only [Act.put, List.setIfInBounds_toArray, List.set_cons_zero, List.set_cons_succ]
                  refine WL.nil ?_
                  refine hK42 _ _ ?_
                  refine wp_cond_true rfl ?_
                  refine wp_seq_k fun K43 hK43 => ?_
                  refine wp_region_list (WL.out ?_)
                  refine WL.val (by kernel_rfl) (.slice va l.length vc) (by go_simp) ?_
                  simp only [Act.put, List.setIfInBounds_toArray, List.set_cons_zero, List.set_cons_succ]
                  refine WL.val (by kernel_rfl) (.int .i64 (i : Int)) (by go_simp) ?_
                  simp only [Act.put, List.setIfInBounds_toArray, List.set_cons_zero, List.set_cons_succ]
                  refine WL.callF (by kernel_rfl) 58 _ _ rfl Try.in58 #[.slice va l.length vc, .int .i64 (i : Int)] (by simp [Act.eval]) ?_
                  refine (rmay_any _ l i w5 (HL.out.below HW5.out) Hi.out Hlb.out (by rw [← hx0.out]; exact Hok.out)).mono ?_
                  rintro e w6 ⟨rfl, h6⟩
                  rw [← hx0.out]
                  refine ⟨_, rfl, ?_⟩
                  have HW6 := Keep.mk (HW5.out.trans (h6.mono HW5.out.size))
                  clear h6
                  simp only [Act.put, List.setIfInBounds_toArray, List.set_cons_zero, List.set_cons_succ]
                  refine WL.val (by kernel_rfl) (.bool (mayAt (l.take i) x)) (by go_simp) ?_
                  simp only [Act.put, List.setIfInBounds_toArray, List.set_cons_zero, List.set_cons_succ]
                  refine WL.nil ?_
                  refine hK43 _ _ ?_
                  refine wp_seq_k fun K44 hK44 => ?_
                  refine wp_region_list (WL.out ?_)
                  refine WL.val (by kernel_rfl) (.bool (mayAt (l.take i) x)) (by go_simp) ?_
                  simp only [Act.put, List.setIfInBounds_toArray, List.set_cons_zero, List.set_cons_succ]
                  rcases Bool.eq_false_or_eq_true (!mayAt (l.take i) x) with h13_1 | h13_1
                  · skip
                    refine WL.val (by kernel_rfl) (.bool true) (by go_simp) ?_
                    simp only [Act.put, List.setIfInBounds_toArray, List.set_cons_zero, List.set_cons_succ]
                    refine WL.nil ?_
                    refine hK44 _ _ ?_
                    refine wp_cond_true rfl ?_
                    refine wp_seq_k fun K45 hK45 => ?_
                    refine wp_region_list (WL.out ?_)
                    refine WL.val (by kernel_rfl) (.int .i64 42) (by go_simp) ?_
                    simp only [Act.put, List.setIfInBounds_toArray, List.set_cons_zero, List.set_cons_succ]
                    refine WL.nil ?_
                    refine hK45 _ _ ?_
                    refine wp_ret ?_
                    go_ret
                    exact ⟨by rw [HR.out, if_neg (show ¬ x.kind < 1 by omega), if_neg (show ¬ 9 < x.kind by omega), if_neg (show ¬ 65536 < x.key.size by omega), if_neg (show ¬ 65536 < x.text.size by omega), if_neg (show ¬ fbad x = true by unfold fbad; simp only [h9_1, h9_10, h9_14, h9_19]; simp), if_pos (show hat x.kind = true by rw [hhat]), if_neg (show ¬ mayAt (l.take i) x = true by simpa using h13_1)]; rfl, HW6.out⟩
                  · skip
                    refine WL.val (by kernel_rfl) (.bool false) (by go_simp) ?_
                    simp only [Act.put, List.setIfInBounds_toArray, List.set_cons_zero, List.set_cons_succ]
                    refine WL.nil ?_
                    refine hK44 _ _ ?_
                    refine wp_cond_false rfl ?_
                    refine wp_skip ?_
                    refine hK41 _ _ ?_
                    refine wp_seq_k fun K46 hK46 => ?_
                    refine wp_region_list (WL.out ?_)
                    refine WL.val (by kernel_rfl) (.int .i64 0) (by go_simp) ?_
                    simp only [Act.put, List.setIfInBounds_toArray, List.set_cons_zero, List.set_cons_succ]
                    refine WL.nil ?_
                    refine hK46 _ _ ?_
                    refine wp_ret ?_
                    go_ret
                    exact ⟨by rw [HR.out, if_neg (show ¬ x.kind < 1 by omega), if_neg (show ¬ 9 < x.kind by omega), if_neg (show ¬ 65536 < x.key.size by omega), if_neg (show ¬ 65536 < x.text.size by omega), if_neg (show ¬ fbad x = true by unfold fbad; simp only [h9_1, h9_10, h9_14, h9_19]; simp), if_pos (show hat x.kind = true by rw [hhat]), if_pos (show mayAt (l.take i) x = true by simpa using h13_1)]; rfl, HW6.out⟩
            · have h9_10p : x.kind = 6 := by simpa using h9_10
              refine WL.val (by kernel_rfl) (.bool false) (by go_simp) ?_
              simp only [Act.put, List.setIfInBounds_toArray, List.set_cons_zero, List.set_cons_succ]
              clear h9_10p
              refine WL.val (by kernel_rfl) (.bool false) (by go_simp) ?_
              simp only [Act.put, List.setIfInBounds_toArray, List.set_cons_zero, List.set_cons_succ]
              refine WL.skip (by kernel_rfl) ?_
              simp only [Act.put, List.setIfInBounds_toArray, List.set_cons_zero, List.set_cons_succ]
              refine WL.skip (by kernel_rfl) ?_
              simp only [Act.put, List.setIfInBounds_toArray, List.set_cons_zero, List.set_cons_succ]
              refine WL.skip (by kernel_rfl) ?_
              simp only [Act.put, List.setIfInBounds_toArray, List.set_cons_zero, List.set_cons_succ]
              refine WL.val (by kernel_rfl) (.bool false) (by go_simp) ?_
              simp only [Act.put, List.setIfInBounds_toArray, List.set_cons_zero, List.set_cons_succ]
              refine WL.val (by kernel_rfl) (.bool false) (by go_simp) ?_
              simp only [Act.put, List.setIfInBounds_toArray, List.set_cons_zero, List.set_cons_succ]
              refine WL.val (by kernel_rfl) (.bool false) (by go_simp) ?_
              simp only [Act.put, List.setIfInBounds_toArray, List.set_cons_zero, List.set_cons_succ]
              refine WL.val (by kernel_rfl) (.bool (hat x.kind)) (by go_simp) ?_
              simp only [Act.put, List.setIfInBounds_toArray, List.set_cons_zero, List.set_cons_succ]
              rcases Bool.eq_false_or_eq_true (!hat x.kind) with h9_19 | h9_19
              · skip
                refine WL.val (by kernel_rfl) (.bool true) (by go_simp) ?_
                simp only [Act.put, List.setIfInBounds_toArray, List.set_cons_zero, List.set_cons_succ]
                refine WL.val (by kernel_rfl) (.bool true) (by go_simp) ?_
                simp only [Act.put, List.setIfInBounds_toArray, List.set_cons_zero, List.set_cons_succ]
                refine WL.val (by kernel_rfl) (.bool (nd x.node z32 && x.op == 0)) (by go_simp) ?_
                simp only [Act.put, List.setIfInBounds_toArray, List.set_cons_zero, List.set_cons_succ]
                rcases Bool.eq_false_or_eq_true (!(nd x.node z32 && x.op == 0)) with h9_22 | h9_22
                · skip
                  refine WL.val (by kernel_rfl) (.bool true) (by go_simp) ?_
                  simp only [Act.put, List.setIfInBounds_toArray, List.set_cons_zero, List.set_cons_succ]
                  refine WL.val (by kernel_rfl) (.bool true) (by go_simp) ?_
                  simp only [Act.put, List.setIfInBounds_toArray, List.set_cons_zero, List.set_cons_succ]
                  refine WL.val (by kernel_rfl) (.bool true) (by go_simp) ?_
                  simp only [Act.put, List.setIfInBounds_toArray, List.set_cons_zero, List.set_cons_succ]
                  refine WL.val (by kernel_rfl) (.bool true) (by go_simp) ?_
                  simp only [Act.put, List.setIfInBounds_toArray, List.set_cons_zero, List.set_cons_succ]
                  refine WL.nil ?_
                  refine hK13 _ _ ?_
                  refine wp_cond_true rfl ?_
                  refine wp_seq_k fun K47 hK47 => ?_
                  refine wp_region_list (WL.out ?_)
                  refine WL.val (by kernel_rfl) (.int .i64 41) (by go_simp) ?_
                  simp only [Act.put, List.setIfInBounds_toArray, List.set_cons_zero, List.set_cons_succ]
                  refine WL.nil ?_
                  refine hK47 _ _ ?_
                  refine wp_ret ?_
                  go_ret
                  exact ⟨by rw [HR.out, if_neg (show ¬ x.kind < 1 by omega), if_neg (show ¬ 9 < x.kind by omega), if_neg (show ¬ 65536 < x.key.size by omega), if_neg (show ¬ 65536 < x.text.size by omega), if_pos (show fbad x = true by unfold fbad; simp only [h9_1, h9_10, h9_19, h9_22]; simp)]; rfl, HW5.out⟩
                · skip
                  refine WL.val (by kernel_rfl) (.bool false) (by go_simp) ?_
                  simp only [Act.put, List.setIfInBounds_toArray, List.set_cons_zero, List.set_cons_succ]
                  refine WL.val (by kernel_rfl) (.bool false) (by go_simp) ?_
                  simp only [Act.put, List.setIfInBounds_toArray, List.set_cons_zero, List.set_cons_succ]
                  refine WL.val (by kernel_rfl) (.bool false) (by go_simp) ?_
                  simp only [Act.put, List.setIfInBounds_toArray, List.set_cons_zero, List.set_cons_succ]
                  refine WL.val (by kernel_rfl) (.bool false) (by go_simp) ?_
                  simp only [Act.put, List.setIfInBounds_toArray, List.set_cons_zero, List.set_cons_succ]
                  refine WL.nil ?_
                  refine hK13 _ _ ?_
                  refine wp_cond_false rfl ?_
                  refine wp_skip ?_
                  refine hK6 _ _ ?_
                  refine wp_seq_k fun K48 hK48 => ?_
                  refine wp_seq_k fun K49 hK49 => ?_
                  refine wp_region_list (WL.out ?_)
                  have hhat : hat x.kind = false := by simpa using h9_19
                  rw [hhat]
                  refine WL.val (by kernel_rfl) (.bool false) (by go_simp) ?_
                  simp only [Act.put, List.setIfInBounds_toArray, List.set_cons_zero, List.set_cons_succ]
                  refine WL.nil ?_
                  refine hK49 _ _ ?_
                  refine wp_cond_false rfl ?_
                  refine wp_skip ?_
                  refine hK48 _ _ ?_
                  refine wp_seq_k fun K50 hK50 => ?_
                  refine wp_region_list (WL.out ?_)
                  refine WL.val (by kernel_rfl) (.int .i64 0) (by go_simp) ?_
                  simp only [Act.put, List.setIfInBounds_toArray, List.set_cons_zero, List.set_cons_succ]
                  refine WL.nil ?_
                  refine hK50 _ _ ?_
                  refine wp_ret ?_
                  go_ret
                  exact ⟨by rw [HR.out, if_neg (show ¬ x.kind < 1 by omega), if_neg (show ¬ 9 < x.kind by omega), if_neg (show ¬ 65536 < x.key.size by omega), if_neg (show ¬ 65536 < x.text.size by omega), if_neg (show ¬ fbad x = true by unfold fbad; simp only [h9_1, h9_10, h9_19, h9_22]; simp), if_neg (show ¬ hat x.kind = true by rw [hhat]; decide)]; rfl, HW5.out⟩
              · skip
                refine WL.val (by kernel_rfl) (.bool false) (by go_simp) ?_
                simp only [Act.put, List.setIfInBounds_toArray, List.set_cons_zero, List.set_cons_succ]
                refine WL.val (by kernel_rfl) (.bool false) (by go_simp) ?_
                simp only [Act.put, List.setIfInBounds_toArray, List.set_cons_zero, List.set_cons_succ]
                refine WL.skip (by kernel_rfl) ?_
                simp only [Act.put, List.setIfInBounds_toArray, List.set_cons_zero, List.set_cons_succ]
                refine WL.skip (by kernel_rfl) ?_
                simp only [Act.put, List.setIfInBounds_toArray, List.set_cons_zero, List.set_cons_succ]
                refine WL.val (by kernel_rfl) (.bool false) (by go_simp) ?_
                simp only [Act.put, List.setIfInBounds_toArray, List.set_cons_zero, List.set_cons_succ]
                refine WL.val (by kernel_rfl) (.bool false) (by go_simp) ?_
                simp only [Act.put, List.setIfInBounds_toArray, List.set_cons_zero, List.set_cons_succ]
                refine WL.val (by kernel_rfl) (.bool false) (by go_simp) ?_
                simp only [Act.put, List.setIfInBounds_toArray, List.set_cons_zero, List.set_cons_succ]
                refine WL.nil ?_
                refine hK13 _ _ ?_
                refine wp_cond_false rfl ?_
                refine wp_skip ?_
                refine hK6 _ _ ?_
                refine wp_seq_k fun K51 hK51 => ?_
                refine wp_seq_k fun K52 hK52 => ?_
                refine wp_region_list (WL.out ?_)
                have hhat : hat x.kind = true := by simpa using h9_19
                rw [hhat]
                refine WL.val (by kernel_rfl) (.bool true) (by go_simp) ?_
                simp only [Act.put, List.setIfInBounds_toArray, List.set_cons_zero, List.set_cons_succ]
                refine WL.nil ?_
                refine hK52 _ _ ?_
                refine wp_cond_true rfl ?_
                refine wp_seq_k fun K53 hK53 => ?_
                refine wp_region_list (WL.out ?_)
                refine WL.val (by kernel_rfl) (.slice va l.length vc) (by go_simp) ?_
                simp only [Act.put, List.setIfInBounds_toArray, List.set_cons_zero, List.set_cons_succ]
                refine WL.val (by kernel_rfl) (.int .i64 (i : Int)) (by go_simp) ?_
                simp only [Act.put, List.setIfInBounds_toArray, List.set_cons_zero, List.set_cons_succ]
                refine WL.callF (by kernel_rfl) 58 _ _ rfl Try.in58 #[.slice va l.length vc, .int .i64 (i : Int)] (by simp [Act.eval]) ?_
                refine (rmay_any _ l i w5 (HL.out.below HW5.out) Hi.out Hlb.out (by rw [← hx0.out]; exact Hok.out)).mono ?_
                rintro e w6 ⟨rfl, h6⟩
                rw [← hx0.out]
                refine ⟨_, rfl, ?_⟩
                have HW6 := Keep.mk (HW5.out.trans (h6.mono HW5.out.size))
                clear h6
                simp only [Act.put, List.setIfInBounds_toArray, List.set_cons_zero, List.set_cons_succ]
                refine WL.val (by kernel_rfl) (.bool (mayAt (l.take i) x)) (by go_simp) ?_
                simp only [Act.put, List.setIfInBounds_toArray, List.set_cons_zero, List.set_cons_succ]
                refine WL.nil ?_
                refine hK53 _ _ ?_
                refine wp_seq_k fun K54 hK54 => ?_
                refine wp_region_list (WL.out ?_)
                refine WL.val (by kernel_rfl) (.bool (mayAt (l.take i) x)) (by go_simp) ?_
                simp only [Act.put, List.setIfInBounds_toArray, List.set_cons_zero, List.set_cons_succ]
                rcases Bool.eq_false_or_eq_true (!mayAt (l.take i) x) with h13_1 | h13_1
                · skip
                  refine WL.val (by kernel_rfl) (.bool true) (by go_simp) ?_
                  simp only [Act.put, List.setIfInBounds_toArray, List.set_cons_zero, List.set_cons_succ]
                  refine WL.nil ?_
                  refine hK54 _ _ ?_
                  refine wp_cond_true rfl ?_
                  refine wp_seq_k fun K55 hK55 => ?_
                  refine wp_region_list (WL.out ?_)
                  refine WL.val (by kernel_rfl) (.int .i64 42) (by go_simp) ?_
                  simp only [Act.put, List.setIfInBounds_toArray, List.set_cons_zero, List.set_cons_succ]
                  refine WL.nil ?_
                  refine hK55 _ _ ?_
                  refine wp_ret ?_
                  go_ret
                  exact ⟨by rw [HR.out, if_neg (show ¬ x.kind < 1 by omega), if_neg (show ¬ 9 < x.kind by omega), if_neg (show ¬ 65536 < x.key.size by omega), if_neg (show ¬ 65536 < x.text.size by omega), if_neg (show ¬ fbad x = true by unfold fbad; simp only [h9_1, h9_10, h9_19]; simp), if_pos (show hat x.kind = true by rw [hhat]), if_neg (show ¬ mayAt (l.take i) x = true by simpa using h13_1)]; rfl, HW6.out⟩
                · skip
                  refine WL.val (by kernel_rfl) (.bool false) (by go_simp) ?_
                  simp only [Act.put, List.setIfInBounds_toArray, List.set_cons_zero, List.set_cons_succ]
                  refine WL.nil ?_
                  refine hK54 _ _ ?_
                  refine wp_cond_false rfl ?_
                  refine wp_skip ?_
                  refine hK51 _ _ ?_
                  refine wp_seq_k fun K56 hK56 => ?_
                  refine wp_region_list (WL.out ?_)
                  refine WL.val (by kernel_rfl) (.int .i64 0) (by go_simp) ?_
                  simp only [Act.put, List.setIfInBounds_toArray, List.set_cons_zero, List.set_cons_succ]
                  refine WL.nil ?_
                  refine hK56 _ _ ?_
                  refine wp_ret ?_
                  go_ret
                  exact ⟨by rw [HR.out, if_neg (show ¬ x.kind < 1 by omega), if_neg (show ¬ 9 < x.kind by omega), if_neg (show ¬ 65536 < x.key.size by omega), if_neg (show ¬ 65536 < x.text.size by omega), if_neg (show ¬ fbad x = true by unfold fbad; simp only [h9_1, h9_10, h9_19]; simp), if_pos (show hat x.kind = true by rw [hhat]), if_pos (show mayAt (l.take i) x = true by simpa using h13_1)]; rfl, HW6.out⟩

set_option maxRecDepth 8000 in
set_option maxHeartbeats 1000000 in
theorem rcheck_any (v : Value) (l : List OpV) (w : World) (hl : OpsAt w v l) (hok : ∀ x ∈ l, OpOk x) (hb : l.length ≤ 4398046511104) :
    Calls Try.prog 27 #[v] w fun e w' => e = .returned (.tuple #[.int .i64 (chk l).1, .int .i64 ((chk l).2 : Int)]) ∧ Below w.heap.size w w' := by
  obtain ⟨va, vc, rfl⟩ := hl.form
  have HL := Keep.mk hl
  have Hok := Keep.mk hok
  have Hlb := Keep.mk hb
  have hb' : (l.length : Int) ≤ 9223372036854775807 := by omega
  obtain ⟨R, hR⟩ : ∃ R, R = chk l := ⟨_, rfl⟩
  rw [← hR]
  unfold chk at hR
  have HR := Keep.mk hR
  clear hl hok hb hR
  go_enter Try.func27, Try.ntmps27
  by_cases hM : 1024 < l.length
  · have hM' : (1024 : Int) < (l.length : Int) := by omega
    rw [if_pos hM] at HR
    refine wp_seq_k fun K1 hK1 => ?_
    refine wp_region_list (WL.out ?_)
    refine WL.val (by kernel_rfl) (.int .i64 0) (by go_simp) ?_
    simp only [Act.put, List.setIfInBounds_toArray, List.set_cons_zero, List.set_cons_succ]
    refine WL.val (by kernel_rfl) (.int .i64 0) (by go_simp) ?_
    simp only [Act.put, List.setIfInBounds_toArray, List.set_cons_zero, List.set_cons_succ]
    refine WL.nil ?_
    refine hK1 _ _ ?_
    refine wp_seq_k fun K2 hK2 => ?_
    refine wp_seq_k fun K3 hK3 => ?_
    refine wp_region_list (WL.out ?_)
    refine WL.val (by kernel_rfl) (.slice va l.length vc) (by go_simp) ?_
    simp only [Act.put, List.setIfInBounds_toArray, List.set_cons_zero, List.set_cons_succ]
    refine WL.val (by kernel_rfl) (.int .i64 (l.length : Int)) (by go_simp) ?_
    simp only [Act.put, List.setIfInBounds_toArray, List.set_cons_zero, List.set_cons_succ]
    refine WL.val (by kernel_rfl) (.bool true) (by go_simp) ?_
    simp only [Act.put, List.setIfInBounds_toArray, List.set_cons_zero, List.set_cons_succ]
    refine WL.nil ?_
    refine hK3 _ _ ?_
    refine wp_cond_true rfl ?_
    refine wp_seq_k fun K4 hK4 => ?_
    refine wp_region_list (WL.out ?_)
    refine WL.val (by kernel_rfl) (.int .i64 3) (by go_simp) ?_
    simp only [Act.put, List.setIfInBounds_toArray, List.set_cons_zero, List.set_cons_succ]
    refine WL.val (by kernel_rfl) (.int .i64 0) (by go_simp) ?_
    simp only [Act.put, List.setIfInBounds_toArray, List.set_cons_zero, List.set_cons_succ]
    refine WL.nil ?_
    refine hK4 _ _ ?_
    refine wp_ret ?_
    go_ret2
    exact ⟨by rw [HR.out]; rfl, Below.refl _ _⟩
  · have hM' : ¬ (1024 : Int) < (l.length : Int) := by omega
    rw [if_neg hM] at HR
    refine wp_seq_k fun K1 hK1 => ?_
    refine wp_region_list (WL.out ?_)
    refine WL.val (by kernel_rfl) (.int .i64 0) (by go_simp) ?_
    simp only [Act.put, List.setIfInBounds_toArray, List.set_cons_zero, List.set_cons_succ]
    refine WL.val (by kernel_rfl) (.int .i64 0) (by go_simp) ?_
    simp only [Act.put, List.setIfInBounds_toArray, List.set_cons_zero, List.set_cons_succ]
    refine WL.nil ?_
    refine hK1 _ _ ?_
    refine wp_seq_k fun K2 hK2 => ?_
    refine wp_seq_k fun K3 hK3 => ?_
    refine wp_region_list (WL.out ?_)
    refine WL.val (by kernel_rfl) (.slice va l.length vc) (by go_simp) ?_
    simp only [Act.put, List.setIfInBounds_toArray, List.set_cons_zero, List.set_cons_succ]
    refine WL.val (by kernel_rfl) (.int .i64 (l.length : Int)) (by go_simp) ?_
    simp only [Act.put, List.setIfInBounds_toArray, List.set_cons_zero, List.set_cons_succ]
    refine WL.val (by kernel_rfl) (.bool false) (by go_simp) ?_
    simp only [Act.put, List.setIfInBounds_toArray, List.set_cons_zero, List.set_cons_succ]
    refine WL.nil ?_
    refine hK3 _ _ ?_
    refine wp_cond_false rfl ?_
    refine wp_skip ?_
    refine hK2 _ _ ?_
    refine wp_seq_k fun K4 hK4 => ?_
    refine wp_seq_k fun K5 hK5 => ?_
    refine wp_region_list (WL.out ?_)
    refine WL.val (by kernel_rfl) (.int .i64 0) (by go_simp) ?_
    simp only [Act.put, List.setIfInBounds_toArray, List.set_cons_zero, List.set_cons_succ]
    refine WL.nil ?_
    refine hK5 _ _ ?_
    refine wp_block ?_
    refine wp_loop (fun a wr => ∃ (t : Nat) (u2 u3 u5 u9 u10 u11 u12 u13 u14 u15 u16 u17 u18 u19 u20 u21 : Value), a = { tmps := #[.slice va l.length vc, undef, u2, u3, .int .i64 (t : Int), u5, .slice va l.length vc, .int .i64 (l.length : Int), .bool false, u9, u10, u11, u12, u13, u14, u15, u16, u17, u18, u19, u20, u21], defers := [] } ∧ t ≤ l.length ∧ chkF [] l = chkF (l.take t) (l.drop t) ∧ Below w.heap.size w wr) (fun a _ => l.length - (intOf (a.tmps.getD 4 undef)).toNat) ⟨0, .int .i64 0, .int .i64 0, undef, undef, undef, undef, undef, undef, undef, undef, undef, undef, undef, undef, undef, undef, rfl, by omega, rfl, Below.refl _ _⟩ ?_
    rintro a wr ⟨t, u2, u3, u5, u9, u10, u11, u12, u13, u14, u15, u16, u17, u18, u19, u20, u21, rfl, ht, hC, hB⟩
    by_cases htl : t < l.length
    · have htl' : (t : Int) < (l.length : Int) := by omega
      have hst := chkF_step l t htl
      have hmem : l.getD t zeroOp ∈ l := by simp [List.getD_eq_getElem?_getD, htl]
      have Hx := Keep.mk (Hok.out _ hmem)
      have hwr1 : IntKind.i64.wrap ((t : Int) + 1) = (t : Int) + 1 := by rw [IntKind.wrap_i64]; have := Hlb.out; omega
      obtain ⟨x, hxk⟩ : ∃ x, Keep (x = l.getD t zeroOp) := ⟨_, ⟨rfl⟩⟩
      rw [← hxk.out] at hst
      have Hst := Keep.mk hst
      have Htl := Keep.mk htl
      clear hst hmem
      refine wp_seq_k fun K6 hK6 => ?_
      refine wp_seq_k fun K7 hK7 => ?_
      refine wp_region_list (WL.out ?_)
      refine WL.val (by kernel_rfl) (.int .i64 (t : Int)) (by go_simp) ?_
      simp only [Act.put, List.setIfInBounds_toArray, List.set_cons_zero, List.set_cons_succ]
      refine WL.val (by kernel_rfl) (.slice va l.length vc) (by go_simp) ?_
      simp only [Act.put, List.setIfInBounds_toArray, List.set_cons_zero, List.set_cons_succ]
      refine WL.val (by kernel_rfl) (.int .i64 (l.length : Int)) (by go_simp) ?_
      simp only [Act.put, List.setIfInBounds_toArray, List.set_cons_zero, List.set_cons_succ]
      refine WL.val (by kernel_rfl) (.bool true) (by go_simp) ?_
      simp only [Act.put, List.setIfInBounds_toArray, List.set_cons_zero, List.set_cons_succ]
      refine WL.nil ?_
      refine hK7 _ _ ?_
      refine wp_cond_true rfl ?_
      refine wp_skip ?_
      refine hK6 _ _ ?_
      refine wp_seq_k fun K8 hK8 => ?_
      refine wp_block ?_
      refine wp_seq_k fun K9 hK9 => ?_
      refine wp_region_list (WL.out ?_)
      refine WL.val (by kernel_rfl) (.slice va l.length vc) (by go_simp) ?_
      simp only [Act.put, List.setIfInBounds_toArray, List.set_cons_zero, List.set_cons_succ]
      refine WL.val (by kernel_rfl) (.int .i64 (t : Int)) (by go_simp) ?_
      simp only [Act.put, List.setIfInBounds_toArray, List.set_cons_zero, List.set_cons_succ]
      refine WL.callF (by kernel_rfl) 40 _ _ rfl Try.in40 #[.slice va l.length vc, .int .i64 (t : Int)] (by simp [Act.eval]) ?_
      refine (rwrong_any _ l t wr (HL.out.below hB) Htl.out Hlb.out Hx.out).mono ?_
      rintro e w5 ⟨rfl, h5⟩
      rw [← hxk.out]
      refine ⟨_, rfl, ?_⟩
      have HB5 := Keep.mk (hB.trans (h5.mono hB.size))
      clear h5
      simp only [Act.put, List.setIfInBounds_toArray, List.set_cons_zero, List.set_cons_succ]
      refine WL.val (by kernel_rfl) (.int .i64 (wrongV (l.take t) x)) (by go_simp) ?_
      simp only [Act.put, List.setIfInBounds_toArray, List.set_cons_zero, List.set_cons_succ]
      refine WL.nil ?_
      refine hK9 _ _ ?_
      refine wp_seq_k fun K10 hK10 => ?_
      refine wp_region_list (WL.out ?_)
      refine WL.val (by kernel_rfl) (.int .i64 (wrongV (l.take t) x)) (by go_simp) ?_
      simp only [Act.put, List.setIfInBounds_toArray, List.set_cons_zero, List.set_cons_succ]
      by_cases h7_1 : wrongV (l.take t) x = 0
      · skip
        refine WL.val (by kernel_rfl) (.bool false) (by go_simp) ?_
        simp only [Act.put, List.setIfInBounds_toArray, List.set_cons_zero, List.set_cons_succ]
        refine WL.nil ?_
        refine hK10 _ _ ?_
        refine wp_cond_false rfl ?_
        refine wp_skip ?_
        refine hK8 _ _ ?_
        refine wp_region_list (WL.out ?_)
        refine WL.val (by kernel_rfl) (.int .i64 (t : Int)) (by go_simp) ?_
        simp only [Act.put, List.setIfInBounds_toArray, List.set_cons_zero, List.set_cons_succ]
        refine WL.val (by kernel_rfl) (.int .i64 ((t : Int) + 1)) (by go_simp) ?_
        simp only [Act.put, List.setIfInBounds_toArray, List.set_cons_zero, List.set_cons_succ]
        refine WL.val (by kernel_rfl) (.int .i64 ((t : Int) + 1)) (by go_simp) ?_
        simp only [Act.put, List.setIfInBounds_toArray, List.set_cons_zero, List.set_cons_succ]
        refine WL.nil ?_
        rw [if_pos h7_1] at Hst
        refine ⟨⟨t + 1, u2, u3, .int .i64 (wrongV (l.take t) x), .int .i64 (t : Int), .slice va l.length vc, .int .i64 (l.length : Int), .bool true, .int .i64 (t : Int), .int .i64 ((t : Int) + 1), .slice va l.length vc, .int .i64 (t : Int), .int .i64 (wrongV (l.take t) x), .int .i64 (wrongV (l.take t) x), .bool false, u20, u21, rfl, by omega, hC.trans Hst.out, HB5.out⟩, ?_⟩
        simp only [intOf]; show l.length - ((t : Int) + 1).toNat < l.length - ((t : Int)).toNat; omega
      · skip
        refine WL.val (by kernel_rfl) (.bool true) (by go_simp) ?_
        simp only [Act.put, List.setIfInBounds_toArray, List.set_cons_zero, List.set_cons_succ]
        refine WL.nil ?_
        refine hK10 _ _ ?_
        refine wp_cond_true rfl ?_
        refine wp_seq_k fun K11 hK11 => ?_
        refine wp_region_list (WL.out ?_)
        refine WL.val (by kernel_rfl) (.int .i64 (wrongV (l.take t) x)) (by go_simp) ?_
        simp only [Act.put, List.setIfInBounds_toArray, List.set_cons_zero, List.set_cons_succ]
        refine WL.val (by kernel_rfl) (.int .i64 (t : Int)) (by go_simp) ?_
        simp only [Act.put, List.setIfInBounds_toArray, List.set_cons_zero, List.set_cons_succ]
        refine WL.val (by kernel_rfl) (.int .i64 (wrongV (l.take t) x)) (by go_simp) ?_
        simp only [Act.put, List.setIfInBounds_toArray, List.set_cons_zero, List.set_cons_succ]
        refine WL.val (by kernel_rfl) (.int .i64 (t : Int)) (by go_simp) ?_
        simp only [Act.put, List.setIfInBounds_toArray, List.set_cons_zero, List.set_cons_succ]
        refine WL.nil ?_
        refine hK11 _ _ ?_
        refine wp_ret ?_
        rw [if_neg h7_1] at Hst
        go_ret2
        exact ⟨by rw [HR.out, hC, Hst.out]; rfl, HB5.out⟩
    · have hte : Keep (t = l.length) := ⟨by omega⟩
      have htl' : ¬ (t : Int) < (l.length : Int) := by omega
      refine wp_seq_k fun K12 hK12 => ?_
      refine wp_seq_k fun K13 hK13 => ?_
      refine wp_region_list (WL.out ?_)
      refine WL.val (by kernel_rfl) (.int .i64 (t : Int)) (by go_simp) ?_
      simp only [Act.put, List.setIfInBounds_toArray, List.set_cons_zero, List.set_cons_succ]
      refine WL.val (by kernel_rfl) (.slice va l.length vc) (by go_simp) ?_
      simp only [Act.put, List.setIfInBounds_toArray, List.set_cons_zero, List.set_cons_succ]
      refine WL.val (by kernel_rfl) (.int .i64 (l.length : Int)) (by go_simp) ?_
      simp only [Act.put, List.setIfInBounds_toArray, List.set_cons_zero, List.set_cons_succ]
      refine WL.val (by kernel_rfl) (.bool false) (by go_simp) ?_
      simp only [Act.put, List.setIfInBounds_toArray, List.set_cons_zero, List.set_cons_succ]
      refine WL.nil ?_
      refine hK13 _ _ ?_
      refine wp_cond_false rfl ?_
      refine wp_exit ?_
      refine hK4 _ _ ?_
      refine wp_seq_k fun K14 hK14 => ?_
      refine wp_region_list (WL.out ?_)
      refine WL.val (by kernel_rfl) (.int .i64 0) (by go_simp) ?_
      simp only [Act.put, List.setIfInBounds_toArray, List.set_cons_zero, List.set_cons_succ]
      refine WL.val (by kernel_rfl) (.int .i64 0) (by go_simp) ?_
      simp only [Act.put, List.setIfInBounds_toArray, List.set_cons_zero, List.set_cons_succ]
      refine WL.nil ?_
      refine hK14 _ _ ?_
      refine wp_ret ?_
      go_ret2
      exact ⟨by rw [HR.out, hC, hte.out, List.drop_length]; rfl, hB⟩

theorem WL.app {ops : Array Oper} {rest : List Oper} {o : Oper} {a : Act} {w : World} {Q : Exit → Act → World → Prop} (hw : Region.wanted o (yielded ops a.tmps) = true) (s x : Operand)
    (ho : o.op = .call { callee := .builtin .append, args := #[s, x], argTypes := #[22, 22] }) (v vx : Value) (l m : List Int)
    (hs : a.eval s = v) (hx : a.eval x = vx) (hown : Own w v l) (hrow : RowAt w vx m) (hb : l.length + m.length ≤ 200000000000000)
    (h : ∀ v' w', AppPost w v (l ++ m) v' w' → WL Try.prog ops Q rest (a.put o.dst v') w') : WL Try.prog ops Q (o :: rest) a w :=
  ⟨wpList_wanted hw fun K hK => by
    obtain ⟨v', w', hr, h2⟩ := run_app_row w o.type v vx l m hown hrow hb
    unfold Oper.wp execOp
    simp only [ho, resolve, invoke, builtin, Sem.run_bind, Sem.run_pure, Result.andThen_ok, List.map_toArray, List.map_cons, List.map_nil, hs, hx, hr]
    exact hK _ _ (h v' w' h2).out⟩
theorem WL.bytes {ops : Array Oper} {rest : List Oper} {o : Oper} {a : Act} {w : World} {Q : Exit → Act → World → Prop} (hw : Region.wanted o (yielded ops a.tmps) = true) (x : Operand) (ho : o.op = .convert 9 22 x) (s : ByteArray) (hx : a.eval x = .string s) (hb : s.size ≤ 140737488355328)
    (h : ∀ v w', OwnT w' v (lst s) → v.ownBlock = some w.heap.size → Below w.heap.size w w' → WL Try.prog ops Q rest (a.put o.dst v) w') : WL Try.prog ops Q (o :: rest) a w := by
  obtain ⟨v, w', h1, h2, h3, h4⟩ := conv_bytes w s hb
  refine WL.valW hw v w' ?_ (h v w' h2 h3 h4)
  unfold execOp
  simp only [ho, hx, Sem.run_bind, h1, Result.andThen_ok]
  rfl
structure LS (w0 : World) (v0 : Value) (L : List Int) (u : Value) (w : World) : Prop where
  own : Own w u L
  mv : Moved w0 v0 u
  gr : Grown w0 w fun k => v0.ownBlock = some k
theorem LS.step {w0 : World} {v0 : Value} {L L' : List Int} {u u' : Value} {w w' : World} (h : LS w0 v0 L u w) (h1 : Own w' u' L') (h2 : Moved w u u') (h3 : Grown w w' fun k => u.ownBlock = some k) : LS w0 v0 L' u' w' :=
  ⟨h1, h.mv.trans h.gr.size h2, h.gr.next h3 fun _ hk ho => h.mv.old hk ho⟩
theorem LS.below {w0 : World} {v0 : Value} {L : List Int} {u : Value} {w w' : World} (h : LS w0 v0 L u w) (hb : Below w.heap.size w w') : LS w0 v0 L u w' :=
  ⟨h.own.grown (Grown.below (S := fun _ => False) hb) (fun _ _ h => h), h.mv, h.gr.next (Grown.below hb (S := fun _ => False)) (fun _ _ h => h.elim)⟩
theorem own_keeps {w w' : World} {u : Value} {L : List Int} (h : Own w u L) {g : Nat} {T : TypeId} {cs : Array Value} (hb : Blk w g T cs) (hT : T ≠ 5) (h3 : Grown w w' fun k => u.ownBlock = some k) : Blk w' g T cs := h3.blk hb fun e => h.ne hb hT e
theorem bsB (c : Int) (w : World) : (Instr.buildSlice 22 1 #[(0, .int .u8 c)]).run Try.prog w = .ok (.slice (some ⟨w.heap.size, 0, none⟩) 1 1) (w.alloc (.cells #[.int .u8 c] 5)) := by kernel_rfl
def tl (x : OpV) : List Int := (if txt x.kind = true then bform (lst x.text) else []) ++ ((if x.kind = 6 then numL (zig x.n) else []) ++ (if hat x.kind = true then numL x.op.toNat ++ (if x.op = 0 then [] else hl 32 (hof x.node)) else []))
theorem oneF_eq (x : OpV) (h : hasI x.kind ≠ []) : oneF x = [x.kind] ++ (bform (lst x.key) ++ tl x) := by
  have hk := hasI_mem h
  simp only [List.mem_cons, List.not_mem_nil, or_false] at hk
  rcases hk with e | e | e | e | e | e | e | e | e <;> simp [oneF, tl, e, hasI, putF, txt, hat]
set_option maxRecDepth 8000 in
set_option maxHeartbeats 4000000 in
theorem rput_any (v : Value) (L0 : List Int) (vl : Value) (l : List OpV) (w : World) (h : Own w v L0) (hl : OpsAt w vl l) (hok : ∀ x ∈ l, OpOk x)
    (hsep : ∀ k, vl.ownBlock = some k → v.ownBlock ≠ some k) (hC : (chk l).1 = 0) (hbb : L0.length + (formL l).length ≤ 200000000000000) :
    Calls Try.prog 28 #[v, vl] w (LayPost v (L0 ++ formL l) w) := by
  obtain ⟨va, vc, rfl⟩ := hl.form
  have HO := Keep.mk h
  have HL := Keep.mk hl
  have Hok := Keep.mk hok
  have Hsep := Keep.mk hsep
  have Hbb := Keep.mk hbb
  have Hok2 := Keep.mk (chk_ok hC)
  have Hlb : Keep (l.length ≤ 4398046511104) := ⟨by have := Hok2.out.1; omega⟩
  have hb' : (l.length : Int) ≤ 9223372036854775807 := by have := Hlb.out; omega
  have hwl : IntKind.u64.wrap (l.length : Int) = (l.length : Int) := by rw [IntKind.wrap_u64]; have := Hlb.out; omega
  clear h hl hok hsep hbb hC
  go_enter Try.func28, Try.ntmps28
  refine wp_seq_k fun K1 hK1 => ?_
  refine wp_region_list (WL.out ?_)
  refine WL.val (by kernel_rfl) (.slice none 0 0) (by go_simp) ?_
  simp only [Act.put, List.setIfInBounds_toArray, List.set_cons_zero, List.set_cons_succ]
  refine WL.nil ?_
  refine hK1 _ _ ?_
  refine wp_seq_k fun K2 hK2 => ?_
  refine wp_region_list (WL.out ?_)
  refine WL.val (by kernel_rfl) (v) (by go_simp) ?_
  simp only [Act.put, List.setIfInBounds_toArray, List.set_cons_zero, List.set_cons_succ]
  refine WL.val (by kernel_rfl) (.slice va l.length vc) (by go_simp) ?_
  simp only [Act.put, List.setIfInBounds_toArray, List.set_cons_zero, List.set_cons_succ]
  refine WL.val (by kernel_rfl) (.int .i64 (l.length : Int)) (by go_simp) ?_
  simp only [Act.put, List.setIfInBounds_toArray, List.set_cons_zero, List.set_cons_succ]
  refine WL.val (by kernel_rfl) (.int .u64 (l.length : Int)) (by go_simp) ?_
  simp only [Act.put, List.setIfInBounds_toArray, List.set_cons_zero, List.set_cons_succ]
  refine WL.callF (by kernel_rfl) 41 _ _ rfl Try.in41 #[v, .int .u64 (l.length : Int)] (by simp [Act.eval]) ?_
  refine (rnum_any v L0 l.length w HO.out (by have := Hlb.out; omega) (by have := Hbb.out; unfold formL at this; rw [List.length_append] at this; omega)).mono ?_
  rintro e w1 hp
  obtain ⟨v1, rfl, hq1, hq2, hq3⟩ := hp
  refine ⟨_, rfl, ?_⟩
  have HS1 : Keep (LS w v (L0 ++ numL l.length) v1 w1) := ⟨⟨hq1, hq2, hq3⟩⟩
  clear hq1 hq2 hq3
  simp only [Act.put, List.setIfInBounds_toArray, List.set_cons_zero, List.set_cons_succ]
  refine WL.val (by kernel_rfl) (v1) (by go_simp) ?_
  simp only [Act.put, List.setIfInBounds_toArray, List.set_cons_zero, List.set_cons_succ]
  refine WL.nil ?_
  refine hK2 _ _ ?_
  refine wp_seq_k fun K3 hK3 => ?_
  refine wp_seq_k fun K4 hK4 => ?_
  refine wp_region_list (WL.out ?_)
  refine WL.val (by kernel_rfl) (.int .i64 0) (by go_simp) ?_
  simp only [Act.put, List.setIfInBounds_toArray, List.set_cons_zero, List.set_cons_succ]
  refine WL.nil ?_
  refine hK4 _ _ ?_
  refine wp_block ?_
  refine wp_loop (fun a wr => ∃ (t : Nat) (u0 u6 u7 u8 u14 u15 u16 u17 u18 u19 u20 u21 u22 u23 u24 u25 u26 u27 u28 u29 u30 u31 u32 u33 u34 u35 u36 u37 u38 u39 u40 u41 u42 u43 u44 u45 u46 u47 u48 u49 u50 u51 u52 u53 u54 u55 u56 u57 u58 u59 u60 u61 u62 u63 u64 u65 u66 u67 u68 u69 u70 : Value), a = { tmps := #[u0, .slice va l.length vc, undef, undef, .slice none 0 0, .int .i64 (t : Int), u6, u7, u8, v, .slice va l.length vc, .int .i64 (l.length : Int), .int .u64 (l.length : Int), v1, u14, u15, u16, u17, u18, u19, u20, u21, u22, u23, u24, u25, u26, u27, u28, u29, u30, u31, u32, u33, u34, u35, u36, u37, u38, u39, u40, u41, u42, u43, u44, u45, u46, u47, u48, u49, u50, u51, u52, u53, u54, u55, u56, u57, u58, u59, u60, u61, u62, u63, u64, u65, u66, u67, u68, u69, u70, undef], defers := [] } ∧ t ≤ l.length ∧ LS w v (L0 ++ numL l.length ++ (l.take t).flatMap oneF) u0 wr) (fun a _ => l.length - (intOf (a.tmps.getD 5 undef)).toNat) ⟨0, v1, undef, undef, undef, undef, undef, undef, undef, undef, undef, undef, undef, undef, undef, undef, undef, undef, undef, undef, undef, undef, undef, undef, undef, undef, undef, undef, undef, undef, undef, undef, undef, undef, undef, undef, undef, undef, undef, undef, undef, undef, undef, undef, undef, undef, undef, undef, undef, undef, undef, undef, undef, undef, undef, undef, undef, undef, undef, undef, undef, undef, rfl, by omega, by rw [List.take_zero, List.flatMap_nil, List.append_nil]; exact HS1.out⟩ ?_
  rintro a wr ⟨t, u0, u6, u7, u8, u14, u15, u16, u17, u18, u19, u20, u21, u22, u23, u24, u25, u26, u27, u28, u29, u30, u31, u32, u33, u34, u35, u36, u37, u38, u39, u40, u41, u42, u43, u44, u45, u46, u47, u48, u49, u50, u51, u52, u53, u54, u55, u56, u57, u58, u59, u60, u61, u62, u63, u64, u65, u66, u67, u68, u69, u70, rfl, ht, hS⟩
  by_cases htl : t < l.length
  · have htl' : (t : Int) < (l.length : Int) := by omega
    have hLr := HL.out.grown hS.gr (fun b hb _ => Hsep.out b hb)
    obtain ⟨gL, ofL, hva, hr⟩ := hLr.at htl
    have hgx : l[t]? = some (l.getD t zeroOp) := by simp [List.getD_eq_getElem?_getD, htl]
    have hwx := wrongV_ok (Hok2.out.2 t _ hgx)
    have hmem : l.getD t zeroOp ∈ l := List.mem_of_getElem? hgx
    have Hx := Keep.mk (Hok.out _ hmem)
    have hnx := fm_next oneF l t htl zeroOp
    have hln := fm_len oneF l (t + 1)
    generalize l.getD t zeroOp = x at *
    have hkr := hasI_rng hwx.1
    have hwk : IntKind.u8.wrap x.kind = x.kind := by rw [IntKind.wrap_u8]; omega
    have HHat : Keep (hat x.kind = true → 0 ≤ x.op ∧ x.op ≤ 1024) := ⟨fun h => mayAt_op (by rw [List.length_take]; have := Hok2.out.1; omega) (hwx.2.2.2.2 ((hat_eq x hwx.1).mpr h))⟩
    have hone := oneF_eq x hwx.1
    have hwr1 : IntKind.i64.wrap ((t : Int) + 1) = (t : Int) + 1 := by rw [IntKind.wrap_i64]; have := Hlb.out; omega
    obtain ⟨L1, hL1⟩ : ∃ L1, Keep (L1 = L0 ++ numL l.length ++ (l.take t).flatMap oneF) := ⟨_, ⟨rfl⟩⟩
    rw [← hL1.out] at hS
    have HFull : Keep (L0 ++ numL l.length ++ (l.take (t + 1)).flatMap oneF = L1 ++ [x.kind] ++ bform (lst x.key) ++ tl x) := ⟨by rw [hnx, hone, hL1.out]; simp⟩
    have Hbd : Keep ((L1 ++ [x.kind] ++ bform (lst x.key) ++ tl x).length ≤ 200000000000000) := ⟨by
      rw [← HFull.out, List.length_append, List.length_append]
      have := Hbb.out
      unfold formL at this
      rw [List.length_append] at this
      omega⟩
    have HS := Keep.mk hS
    clear hS hLr hgx hwx hmem hnx hln hkr hone
    refine wp_seq_k fun K5 hK5 => ?_
    refine wp_seq_k fun K6 hK6 => ?_
    refine wp_region_list (WL.out ?_)
    refine WL.val (by kernel_rfl) (.int .i64 (t : Int)) (by go_simp) ?_
    simp only [Act.put, List.setIfInBounds_toArray, List.set_cons_zero, List.set_cons_succ]
    refine WL.val (by kernel_rfl) (.slice va l.length vc) (by go_simp) ?_
    simp only [Act.put, List.setIfInBounds_toArray, List.set_cons_zero, List.set_cons_succ]
    refine WL.val (by kernel_rfl) (.int .i64 (l.length : Int)) (by go_simp) ?_
    simp only [Act.put, List.setIfInBounds_toArray, List.set_cons_zero, List.set_cons_succ]
    refine WL.val (by kernel_rfl) (.bool true) (by go_simp) ?_
    simp only [Act.put, List.setIfInBounds_toArray, List.set_cons_zero, List.set_cons_succ]
    refine WL.nil ?_
    refine hK6 _ _ ?_
    refine wp_cond_true rfl ?_
    refine wp_skip ?_
    refine hK5 _ _ ?_
    refine wp_seq_k fun K7 hK7 => ?_
    refine wp_block ?_
    refine wp_seq_k fun K8 hK8 => ?_
    refine wp_region_list (WL.out ?_)
    refine WL.val (by kernel_rfl) (.slice va l.length vc) (by go_simp) ?_
    simp only [Act.put, List.setIfInBounds_toArray, List.set_cons_zero, List.set_cons_succ]
    refine WL.val (by kernel_rfl) (.int .i64 (t : Int)) (by go_simp) ?_
    simp only [Act.put, List.setIfInBounds_toArray, List.set_cons_zero, List.set_cons_succ]
    refine WL.val (by kernel_rfl) (.pointer (some ⟨gL, ofL + t * 37, none⟩)) (by go_simp) ?_
    simp only [Act.put, List.setIfInBounds_toArray, List.set_cons_zero, List.set_cons_succ]
    refine WL.mid (by kernel_rfl) 59 (.tmp 22) rfl gL (ofL + t * 37) rfl (opL x) _ hr Try.underlying59 rfl (Try.size59L x) ?_
    rw [rng_load]
    simp only [Act.put, List.setIfInBounds_toArray, List.set_cons_zero, List.set_cons_succ]
    refine WL.new (by kernel_rfl) 59 rfl _ Try.new59 ?_
    simp only [Act.put, List.setIfInBounds_toArray, List.set_cons_zero, List.set_cons_succ]
    refine WL.storeR (by kernel_rfl) 59 (.tmp 6) (.tmp 23) rfl wr.heap.size (opA x) rfl rfl 59 (opA zeroOp) (Blk.new wr 59 _) (Try.size59B x) (opA_sizes _ _) (opA_one x) ?_
    have X0 := Keep.mk ((Blk.new wr 59 (opA zeroOp)).setRow (opA x))
    have HGr : Keep (Below wr.heap.size wr ((wr.alloc (.cells (opA zeroOp) 59)).setRow wr.heap.size (opA x))) := ⟨below_setRow (below_new wr _) (Nat.le_refl _) _⟩
    generalize (wr.alloc (.cells (opA zeroOp) 59)).setRow wr.heap.size (opA x) = w_0 at *
    obtain ⟨gx, hgx⟩ : ∃ gx, Keep (gx = wr.heap.size) := ⟨_, ⟨rfl⟩⟩
    rw [← hgx.out] at X0 ⊢
    have H0 := Keep.mk (HS.out.below HGr.out)
    have c0_0 := X0.out.c 0 (opA_0 x)
    have c0_1 := X0.out.c 1 (opA_1 x)
    have c0_2 := X0.out.c 2 (opA_2 x)
    have c0_3 := X0.out.c 3 (opA_3 x)
    have c0_36 := X0.out.c 36 (opA_36 x)
    simp only [Act.put]
    refine WL.nil ?_
    refine hK8 _ _ ?_
    refine wp_seq_k fun K9 hK9 => ?_
    refine wp_region_list (WL.out ?_)
    refine WL.val (by kernel_rfl) (u0) (by go_simp) ?_
    simp only [Act.put, List.setIfInBounds_toArray, List.set_cons_zero, List.set_cons_succ]
    refine WL.val (by kernel_rfl) (.pointer (some ⟨gx, 0, none⟩)) (by go_simp) ?_
    simp only [Act.put, List.setIfInBounds_toArray, List.set_cons_zero, List.set_cons_succ]
    refine WL.val (by kernel_rfl) (.int .i64 x.kind) (by go_simp) ?_
    simp only [Act.put, List.setIfInBounds_toArray, List.set_cons_zero, List.set_cons_succ]
    refine WL.val (by kernel_rfl) (.int .u8 x.kind) (by go_simp) ?_
    simp only [Act.put, List.setIfInBounds_toArray, List.set_cons_zero, List.set_cons_succ]
    refine WL.bs (by kernel_rfl) 22 1 _ rfl #[(0, .int .u8 x.kind)] (by simp [Act.eval]) _ _ (bsB x.kind w_0) ?_
    simp only [Act.put, List.setIfInBounds_toArray, List.set_cons_zero, List.set_cons_succ]
    refine WL.app (by kernel_rfl) (.tmp 24) (.tmp 28) rfl u0 (.slice (some ⟨w_0.heap.size, 0, none⟩) 1 1) L1 [x.kind] rfl rfl (H0.out.own.box _) (row_one w_0 x.kind) (by have := Hbd.out; simp only [List.length_append, List.length_cons, List.length_nil] at this ⊢; omega) ?_
    intro u_1 w_1 hap
    obtain ⟨hq1, hq2, hq3⟩ := hap.box
    have H1 := Keep.mk (H0.out.step hq1 hq2 hq3)
    have X1 := Keep.mk (own_keeps H0.out.own X0.out (by decide) hq3)
    clear hq1 hq2 hq3 hap
    clear c0_0 c0_1 c0_2 c0_3 c0_36
    have c1_0 := X1.out.c 0 (opA_0 x)
    have c1_1 := X1.out.c 1 (opA_1 x)
    have c1_2 := X1.out.c 2 (opA_2 x)
    have c1_3 := X1.out.c 3 (opA_3 x)
    have c1_36 := X1.out.c 36 (opA_36 x)
    simp only [Act.put, List.setIfInBounds_toArray, List.set_cons_zero, List.set_cons_succ]
    refine WL.val (by kernel_rfl) (u_1) (by go_simp) ?_
    simp only [Act.put, List.setIfInBounds_toArray, List.set_cons_zero, List.set_cons_succ]
    refine WL.nil ?_
    refine hK9 _ _ ?_
    refine wp_seq_k fun K10 hK10 => ?_
    refine wp_region_list (WL.out ?_)
    refine WL.val (by kernel_rfl) (u_1) (by go_simp) ?_
    simp only [Act.put, List.setIfInBounds_toArray, List.set_cons_zero, List.set_cons_succ]
    refine WL.val (by kernel_rfl) (.pointer (some ⟨gx, 1, none⟩)) (by go_simp) ?_
    simp only [Act.put, List.setIfInBounds_toArray, List.set_cons_zero, List.set_cons_succ]
    refine WL.val (by kernel_rfl) (.string x.key) (by go_simp) ?_
    simp only [Act.put, List.setIfInBounds_toArray, List.set_cons_zero, List.set_cons_succ]
    refine WL.bytes (by kernel_rfl) (.tmp 32) rfl x.key rfl Hx.out.key ?_
    intro vb2 w_2 hb1 hb2 hb3
    have R2 := Keep.mk hb1
    have S2 : Keep (∀ k, vb2.ownBlock = some k → u_1.ownBlock ≠ some k) := ⟨fun k hk ho => by rw [hb2] at hk; injection hk with hk; have := H1.out.own.lt k ho; omega⟩
    have H2 := Keep.mk (H1.out.below hb3)
    have X2 := Keep.mk (X1.out.below hb3 X1.out.lt)
    clear hb1 hb2 hb3
    clear c1_0 c1_1 c1_2 c1_3 c1_36
    have c2_0 := X2.out.c 0 (opA_0 x)
    have c2_1 := X2.out.c 1 (opA_1 x)
    have c2_2 := X2.out.c 2 (opA_2 x)
    have c2_3 := X2.out.c 3 (opA_3 x)
    have c2_36 := X2.out.c 36 (opA_36 x)
    simp only [Act.put, List.setIfInBounds_toArray, List.set_cons_zero, List.set_cons_succ]
    refine WL.callF (by kernel_rfl) 42 _ _ rfl Try.in42 #[u_1, vb2] (by simp [Act.eval]) ?_
    refine (rbytes_any u_1 vb2 (L1 ++ [x.kind]) (lst x.key) w_2 H2.out.own R2.out.row S2.out (by have := Hbd.out; simp only [List.length_append, List.length_cons, List.length_nil] at this ⊢; omega)).mono ?_
    rintro e w_3 hp
    obtain ⟨u_3, rfl, hq1, hq2, hq3⟩ := hp
    refine ⟨_, rfl, ?_⟩
    have H3 := Keep.mk (H2.out.step hq1 hq2 hq3)
    have X3 := Keep.mk (own_keeps H2.out.own X2.out (by decide) hq3)
    clear hq1 hq2 hq3
    clear c2_0 c2_1 c2_2 c2_3 c2_36
    have c3_0 := X3.out.c 0 (opA_0 x)
    have c3_1 := X3.out.c 1 (opA_1 x)
    have c3_2 := X3.out.c 2 (opA_2 x)
    have c3_3 := X3.out.c 3 (opA_3 x)
    have c3_36 := X3.out.c 36 (opA_36 x)
    simp only [Act.put, List.setIfInBounds_toArray, List.set_cons_zero, List.set_cons_succ]
    refine WL.val (by kernel_rfl) (u_3) (by go_simp) ?_
    simp only [Act.put, List.setIfInBounds_toArray, List.set_cons_zero, List.set_cons_succ]
    refine WL.nil ?_
    refine hK10 _ _ ?_
    refine wp_seq_k fun K11 hK11 => ?_
    refine wp_region_list (WL.out ?_)
    refine WL.val (by kernel_rfl) (.pointer (some ⟨gx, 0, none⟩)) (by go_simp) ?_
    simp only [Act.put, List.setIfInBounds_toArray, List.set_cons_zero, List.set_cons_succ]
    refine WL.val (by kernel_rfl) (.int .i64 x.kind) (by go_simp) ?_
    simp only [Act.put, List.setIfInBounds_toArray, List.set_cons_zero, List.set_cons_succ]
    refine WL.callF (by kernel_rfl) 43 _ _ rfl Try.in43 #[.int .i64 x.kind] (by simp [Act.eval]) ?_
    refine (hasText_any x.kind w_3).mono ?_
    rintro e w_y ⟨rfl, hwy⟩
    rw [hwy]
    clear hwy w_y
    refine ⟨_, rfl, ?_⟩
    simp only [Act.put, List.setIfInBounds_toArray, List.set_cons_zero, List.set_cons_succ]
    refine WL.val (by kernel_rfl) (.bool (txt x.kind)) (by go_simp) ?_
    simp only [Act.put, List.setIfInBounds_toArray, List.set_cons_zero, List.set_cons_succ]
    refine WL.nil ?_
    refine hK11 _ _ ?_
    refine wp_seq_k fun K12 hK12 => ?_
    refine wp_seq_k fun K13 hK13 => ?_
    refine wp_region_list (WL.out ?_)
    rcases Bool.eq_false_or_eq_true (txt x.kind) with h9_0 | h9_0
    · have q38 := h9_0
      rw [h9_0]
      refine WL.val (by kernel_rfl) (.bool true) (by go_simp) ?_
      simp only [Act.put, List.setIfInBounds_toArray, List.set_cons_zero, List.set_cons_succ]
      refine WL.nil ?_
      refine hK13 _ _ ?_
      refine wp_cond_true rfl ?_
      refine wp_region_list (WL.out ?_)
      refine WL.val (by kernel_rfl) (u_3) (by go_simp) ?_
      simp only [Act.put, List.setIfInBounds_toArray, List.set_cons_zero, List.set_cons_succ]
      refine WL.val (by kernel_rfl) (.pointer (some ⟨gx, 2, none⟩)) (by go_simp) ?_
      simp only [Act.put, List.setIfInBounds_toArray, List.set_cons_zero, List.set_cons_succ]
      refine WL.val (by kernel_rfl) (.string x.text) (by go_simp) ?_
      simp only [Act.put, List.setIfInBounds_toArray, List.set_cons_zero, List.set_cons_succ]
      refine WL.bytes (by kernel_rfl) (.tmp 41) rfl x.text rfl Hx.out.text ?_
      intro vb4 w_4 hb1 hb2 hb3
      have R4 := Keep.mk hb1
      have S4 : Keep (∀ k, vb4.ownBlock = some k → u_3.ownBlock ≠ some k) := ⟨fun k hk ho => by rw [hb2] at hk; injection hk with hk; have := H3.out.own.lt k ho; omega⟩
      have H4 := Keep.mk (H3.out.below hb3)
      have X4 := Keep.mk (X3.out.below hb3 X3.out.lt)
      clear hb1 hb2 hb3
      clear c3_0 c3_1 c3_2 c3_3 c3_36
      have c4_0 := X4.out.c 0 (opA_0 x)
      have c4_1 := X4.out.c 1 (opA_1 x)
      have c4_2 := X4.out.c 2 (opA_2 x)
      have c4_3 := X4.out.c 3 (opA_3 x)
      have c4_36 := X4.out.c 36 (opA_36 x)
      simp only [Act.put, List.setIfInBounds_toArray, List.set_cons_zero, List.set_cons_succ]
      refine WL.callF (by kernel_rfl) 42 _ _ rfl Try.in42 #[u_3, vb4] (by simp [Act.eval]) ?_
      refine (rbytes_any u_3 vb4 (L1 ++ [x.kind] ++ bform (lst x.key)) (lst x.text) w_4 H4.out.own R4.out.row S4.out (by have := Hbd.out; unfold tl at this; rw [if_pos q38] at this; simp only [List.length_append, List.length_cons, List.length_nil] at this ⊢; omega)).mono ?_
      rintro e w_5 hp
      obtain ⟨u_5, rfl, hq1, hq2, hq3⟩ := hp
      refine ⟨_, rfl, ?_⟩
      have H5 := Keep.mk (H4.out.step hq1 hq2 hq3)
      have X5 := Keep.mk (own_keeps H4.out.own X4.out (by decide) hq3)
      clear hq1 hq2 hq3
      clear c4_0 c4_1 c4_2 c4_3 c4_36
      have c5_0 := X5.out.c 0 (opA_0 x)
      have c5_1 := X5.out.c 1 (opA_1 x)
      have c5_2 := X5.out.c 2 (opA_2 x)
      have c5_3 := X5.out.c 3 (opA_3 x)
      have c5_36 := X5.out.c 36 (opA_36 x)
      simp only [Act.put, List.setIfInBounds_toArray, List.set_cons_zero, List.set_cons_succ]
      refine WL.val (by kernel_rfl) (u_5) (by go_simp) ?_
      simp only [Act.put, List.setIfInBounds_toArray, List.set_cons_zero, List.set_cons_succ]
      refine WL.nil ?_
      refine hK12 _ _ ?_
      refine wp_seq_k fun K14 hK14 => ?_
      refine wp_seq_k fun K15 hK15 => ?_
      refine wp_region_list (WL.out ?_)
      refine WL.val (by kernel_rfl) (.pointer (some ⟨gx, 0, none⟩)) (by go_simp) ?_
      simp only [Act.put, List.setIfInBounds_toArray, List.set_cons_zero, List.set_cons_succ]
      refine WL.val (by kernel_rfl) (.int .i64 x.kind) (by go_simp) ?_
      simp only [Act.put, List.setIfInBounds_toArray, List.set_cons_zero, List.set_cons_succ]
      by_cases h11_2 : x.kind = 6
      · skip
        refine WL.val (by kernel_rfl) (.bool true) (by go_simp) ?_
        simp only [Act.put, List.setIfInBounds_toArray, List.set_cons_zero, List.set_cons_succ]
        refine WL.nil ?_
        refine hK15 _ _ ?_
        refine wp_cond_true rfl ?_
        refine wp_region_list (WL.out ?_)
        refine WL.val (by kernel_rfl) (u_5) (by go_simp) ?_
        simp only [Act.put, List.setIfInBounds_toArray, List.set_cons_zero, List.set_cons_succ]
        refine WL.val (by kernel_rfl) (.pointer (some ⟨gx, 3, none⟩)) (by go_simp) ?_
        simp only [Act.put, List.setIfInBounds_toArray, List.set_cons_zero, List.set_cons_succ]
        refine WL.val (by kernel_rfl) (.int .i64 x.n) (by go_simp) ?_
        simp only [Act.put, List.setIfInBounds_toArray, List.set_cons_zero, List.set_cons_succ]
        refine WL.callF (by kernel_rfl) 44 _ _ rfl Try.in44 #[.int .i64 x.n] (by simp [Act.eval]) ?_
        refine (rzig_any x.n w_5 Hx.out.n1 Hx.out.n2).mono ?_
        rintro e w_y ⟨rfl, hwy⟩
        rw [hwy]
        clear hwy w_y
        refine ⟨_, rfl, ?_⟩
        simp only [Act.put, List.setIfInBounds_toArray, List.set_cons_zero, List.set_cons_succ]
        refine WL.callF (by kernel_rfl) 41 _ _ rfl Try.in41 #[u_5, .int .u64 (zig x.n : Int)] (by simp [Act.eval]) ?_
        refine (rnum_any u_5 (L1 ++ [x.kind] ++ bform (lst x.key) ++ bform (lst x.text)) (zig x.n) w_5 H5.out.own (zig_lt _ Hx.out.n1 Hx.out.n2) (by have := Hbd.out; unfold tl at this; rw [if_pos q38, if_pos h11_2] at this; simp only [List.length_append, List.length_cons, List.length_nil] at this ⊢; omega)).mono ?_
        rintro e w_6 hp
        obtain ⟨u_6, rfl, hq1, hq2, hq3⟩ := hp
        refine ⟨_, rfl, ?_⟩
        have H6 := Keep.mk (H5.out.step hq1 hq2 hq3)
        have X6 := Keep.mk (own_keeps H5.out.own X5.out (by decide) hq3)
        clear hq1 hq2 hq3
        clear c5_0 c5_1 c5_2 c5_3 c5_36
        have c6_0 := X6.out.c 0 (opA_0 x)
        have c6_1 := X6.out.c 1 (opA_1 x)
        have c6_2 := X6.out.c 2 (opA_2 x)
        have c6_3 := X6.out.c 3 (opA_3 x)
        have c6_36 := X6.out.c 36 (opA_36 x)
        simp only [Act.put, List.setIfInBounds_toArray, List.set_cons_zero, List.set_cons_succ]
        refine WL.val (by kernel_rfl) (u_6) (by go_simp) ?_
        simp only [Act.put, List.setIfInBounds_toArray, List.set_cons_zero, List.set_cons_succ]
        refine WL.nil ?_
        refine hK14 _ _ ?_
        refine wp_seq_k fun K16 hK16 => ?_
        refine wp_region_list (WL.out ?_)
        refine WL.val (by kernel_rfl) (.pointer (some ⟨gx, 0, none⟩)) (by go_simp) ?_
        simp only [Act.put, List.setIfInBounds_toArray, List.set_cons_zero, List.set_cons_succ]
        refine WL.val (by kernel_rfl) (.int .i64 x.kind) (by go_simp) ?_
        simp only [Act.put, List.setIfInBounds_toArray, List.set_cons_zero, List.set_cons_succ]
        refine WL.callF (by kernel_rfl) 45 _ _ rfl Try.in45 #[.int .i64 x.kind] (by simp [Act.eval]) ?_
        refine (hasAt_any x.kind w_6).mono ?_
        rintro e w_y ⟨rfl, hwy⟩
        rw [hwy]
        clear hwy w_y
        refine ⟨_, rfl, ?_⟩
        simp only [Act.put, List.setIfInBounds_toArray, List.set_cons_zero, List.set_cons_succ]
        refine WL.val (by kernel_rfl) (.bool (hat x.kind)) (by go_simp) ?_
        simp only [Act.put, List.setIfInBounds_toArray, List.set_cons_zero, List.set_cons_succ]
        refine WL.nil ?_
        refine hK16 _ _ ?_
        refine wp_seq_k fun K17 hK17 => ?_
        refine wp_region_list (WL.out ?_)
        rcases Bool.eq_false_or_eq_true (hat x.kind) with h14_0 | h14_0
        · have q55 := h14_0
          rw [h14_0]
          refine WL.val (by kernel_rfl) (.bool true) (by go_simp) ?_
          simp only [Act.put, List.setIfInBounds_toArray, List.set_cons_zero, List.set_cons_succ]
          refine WL.nil ?_
          refine hK17 _ _ ?_
          refine wp_cond_true rfl ?_
          refine wp_seq_k fun K18 hK18 => ?_
          refine wp_region_list (WL.out ?_)
          refine WL.val (by kernel_rfl) (u_6) (by go_simp) ?_
          simp only [Act.put, List.setIfInBounds_toArray, List.set_cons_zero, List.set_cons_succ]
          refine WL.val (by kernel_rfl) (.pointer (some ⟨gx, 4, none⟩)) (by go_simp) ?_
          simp only [Act.put, List.setIfInBounds_toArray, List.set_cons_zero, List.set_cons_succ]
          refine WL.val (by kernel_rfl) (.pointer (some ⟨gx, 36, none⟩)) (by go_simp) ?_
          simp only [Act.put, List.setIfInBounds_toArray, List.set_cons_zero, List.set_cons_succ]
          refine WL.val (by kernel_rfl) (.int .i64 x.op) (by go_simp) ?_
          simp only [Act.put, List.setIfInBounds_toArray, List.set_cons_zero, List.set_cons_succ]
          obtain ⟨on, hon⟩ : ∃ on : Nat, Keep (x.op = (on : Int)) := ⟨x.op.toNat, ⟨by have := (HHat.out q55).1; omega⟩⟩
          have hwo : IntKind.u64.wrap x.op = (on : Int) := by rw [hon.out, IntKind.wrap_u64]; have := (HHat.out q55).2; have := hon.out; omega
          have Hon : Keep (x.op.toNat = on) := ⟨by rw [hon.out, Int.toNat_natCast]⟩
          refine WL.val (by kernel_rfl) (.int .u64 (on : Int)) (by go_simp) ?_
          simp only [Act.put, List.setIfInBounds_toArray, List.set_cons_zero, List.set_cons_succ]
          refine WL.callF (by kernel_rfl) 41 _ _ rfl Try.in41 #[u_6, .int .u64 (on : Int)] (by simp [Act.eval]) ?_
          refine (rnum_any u_6 (L1 ++ [x.kind] ++ bform (lst x.key) ++ bform (lst x.text) ++ numL (zig x.n)) on w_6 H6.out.own (by have := (HHat.out q55).2; have := hon.out; omega) (by have := Hbd.out; unfold tl at this; rw [if_pos q38, if_pos h11_2, if_pos q55] at this; rw [Hon.out] at this; simp only [List.length_append, List.length_cons, List.length_nil] at this ⊢; omega)).mono ?_
          rintro e w_7 hp
          obtain ⟨u_7, rfl, hq1, hq2, hq3⟩ := hp
          refine ⟨_, rfl, ?_⟩
          have H7 := Keep.mk (H6.out.step hq1 hq2 hq3)
          have X7 := Keep.mk (own_keeps H6.out.own X6.out (by decide) hq3)
          clear hq1 hq2 hq3
          clear c6_0 c6_1 c6_2 c6_3 c6_36
          have c7_0 := X7.out.c 0 (opA_0 x)
          have c7_1 := X7.out.c 1 (opA_1 x)
          have c7_2 := X7.out.c 2 (opA_2 x)
          have c7_3 := X7.out.c 3 (opA_3 x)
          have c7_36 := X7.out.c 36 (opA_36 x)
          simp only [Act.put, List.setIfInBounds_toArray, List.set_cons_zero, List.set_cons_succ]
          refine WL.val (by kernel_rfl) (u_7) (by go_simp) ?_
          simp only [Act.put, List.setIfInBounds_toArray, List.set_cons_zero, List.set_cons_succ]
          refine WL.nil ?_
          refine hK18 _ _ ?_
          refine wp_seq_k fun K19 hK19 => ?_
          refine wp_region_list (WL.out ?_)
          refine WL.val (by kernel_rfl) (.pointer (some ⟨gx, 4, none⟩)) (by go_simp) ?_
          simp only [Act.put, List.setIfInBounds_toArray, List.set_cons_zero, List.set_cons_succ]
          refine WL.val (by kernel_rfl) (.pointer (some ⟨gx, 36, none⟩)) (by go_simp) ?_
          simp only [Act.put, List.setIfInBounds_toArray, List.set_cons_zero, List.set_cons_succ]
          refine WL.val (by kernel_rfl) (.int .i64 x.op) (by go_simp) ?_
          simp only [Act.put, List.setIfInBounds_toArray, List.set_cons_zero, List.set_cons_succ]
          by_cases h16_3 : x.op = 0
          · skip
            refine WL.val (by kernel_rfl) (.bool false) (by go_simp) ?_
            simp only [Act.put, List.setIfInBounds_toArray, List.set_cons_zero, List.set_cons_succ]
            refine WL.nil ?_
            refine hK19 _ _ ?_
            refine wp_cond_false rfl ?_
            refine wp_skip ?_
            refine hK7 _ _ ?_
            refine wp_region_list (WL.out ?_)
            refine WL.val (by kernel_rfl) (.int .i64 (t : Int)) (by go_simp) ?_
            simp only [Act.put, List.setIfInBounds_toArray, List.set_cons_zero, List.set_cons_succ]
            refine WL.val (by kernel_rfl) (.int .i64 ((t : Int) + 1)) (by go_simp) ?_
            simp only [Act.put, List.setIfInBounds_toArray, List.set_cons_zero, List.set_cons_succ]
            refine WL.val (by kernel_rfl) (.int .i64 ((t : Int) + 1)) (by go_simp) ?_
            simp only [Act.put, List.setIfInBounds_toArray, List.set_cons_zero, List.set_cons_succ]
            refine WL.nil ?_
            have hE : L0 ++ numL l.length ++ (l.take (t + 1)).flatMap oneF = L1 ++ [x.kind] ++ bform (lst x.key) ++ bform (lst x.text) ++ numL (zig x.n) ++ numL on := by
              rw [HFull.out]; unfold tl
              rw [if_pos q38, if_pos h11_2, if_pos q55, if_pos h16_3]
              rw [Hon.out]
              simp
            refine ⟨⟨t + 1, u_7, .pointer (some ⟨gx, 0, none⟩), .bool true, .bool true, .int .i64 (t : Int), .slice va l.length vc, .int .i64 (l.length : Int), .bool true, .int .i64 (t : Int), .int .i64 ((t : Int) + 1), .slice va l.length vc, .int .i64 (t : Int), .pointer (some ⟨gL, ofL + t * 37, none⟩), .agg (opA x), u0, .pointer (some ⟨gx, 0, none⟩), .int .i64 x.kind, .int .u8 x.kind, .slice (some ⟨w_0.heap.size, 0, none⟩) 1 1, u_1, u_1, .pointer (some ⟨gx, 1, none⟩), .string x.key, vb2, u_3, .pointer (some ⟨gx, 0, none⟩), .int .i64 x.kind, .bool true, .bool true, u_3, .pointer (some ⟨gx, 2, none⟩), .string x.text, vb4, u_5, .pointer (some ⟨gx, 0, none⟩), .int .i64 x.kind, .bool true, u_5, .pointer (some ⟨gx, 3, none⟩), .int .i64 x.n, .int .u64 (zig x.n : Int), u_6, .pointer (some ⟨gx, 0, none⟩), .int .i64 x.kind, .bool true, .bool true, u_6, .pointer (some ⟨gx, 4, none⟩), .pointer (some ⟨gx, 36, none⟩), .int .i64 x.op, .int .u64 (on : Int), u_7, .pointer (some ⟨gx, 4, none⟩), .pointer (some ⟨gx, 36, none⟩), .int .i64 x.op, .bool false, u66, u67, u68, u69, u70, rfl, by omega, by rw [hE]; exact H7.out⟩, ?_⟩
            simp only [intOf]; show l.length - ((t : Int) + 1).toNat < l.length - ((t : Int)).toNat; omega
          · skip
            refine WL.val (by kernel_rfl) (.bool true) (by go_simp) ?_
            simp only [Act.put, List.setIfInBounds_toArray, List.set_cons_zero, List.set_cons_succ]
            refine WL.nil ?_
            refine hK19 _ _ ?_
            refine wp_cond_true rfl ?_
            refine wp_region_list (WL.out ?_)
            refine WL.val (by kernel_rfl) (u_7) (by go_simp) ?_
            simp only [Act.put, List.setIfInBounds_toArray, List.set_cons_zero, List.set_cons_succ]
            refine WL.val (by kernel_rfl) (.pointer (some ⟨gx, 4, none⟩)) (by go_simp) ?_
            simp only [Act.put, List.setIfInBounds_toArray, List.set_cons_zero, List.set_cons_succ]
            refine WL.val (by kernel_rfl) (.pointer (some ⟨gx, 4, none⟩)) (by go_simp) ?_
            simp only [Act.put, List.setIfInBounds_toArray, List.set_cons_zero, List.set_cons_succ]
            refine WL.midA (by kernel_rfl) 55 (.tmp 68) rfl gx 4 rfl (bytesA 32 (hof x.node)) _ (opA_nodes X7.out) Try.underlying55 rfl (Try.size55B _) ?_
            simp only [Act.put, List.setIfInBounds_toArray, List.set_cons_zero, List.set_cons_succ]
            refine WL.callF (by kernel_rfl) 46 _ _ rfl Try.in46 #[u_7, .agg (bytesA 32 (hof x.node))] (by simp [Act.eval]) ?_
            refine (rhash_any u_7 (L1 ++ [x.kind] ++ bform (lst x.key) ++ bform (lst x.text) ++ numL (zig x.n) ++ numL on) (hof x.node) w_7 H7.out.own (by have := Hbd.out; unfold tl at this; rw [if_pos q38, if_pos h11_2, if_pos q55, if_neg h16_3] at this; rw [Hon.out] at this; simp only [hl_len, List.length_append, List.length_cons, List.length_nil] at this ⊢; omega)).mono ?_
            rintro e w_8 hp
            obtain ⟨u_8, rfl, hq1, hq2, hq3⟩ := hp
            refine ⟨_, rfl, ?_⟩
            have H8 := Keep.mk (H7.out.step hq1 hq2 hq3)
            have X8 := Keep.mk (own_keeps H7.out.own X7.out (by decide) hq3)
            clear hq1 hq2 hq3
            clear c7_0 c7_1 c7_2 c7_3 c7_36
            have c8_0 := X8.out.c 0 (opA_0 x)
            have c8_1 := X8.out.c 1 (opA_1 x)
            have c8_2 := X8.out.c 2 (opA_2 x)
            have c8_3 := X8.out.c 3 (opA_3 x)
            have c8_36 := X8.out.c 36 (opA_36 x)
            simp only [Act.put, List.setIfInBounds_toArray, List.set_cons_zero, List.set_cons_succ]
            refine WL.val (by kernel_rfl) (u_8) (by go_simp) ?_
            simp only [Act.put, List.setIfInBounds_toArray, List.set_cons_zero, List.set_cons_succ]
            refine WL.nil ?_
            refine hK7 _ _ ?_
            refine wp_region_list (WL.out ?_)
            refine WL.val (by kernel_rfl) (.int .i64 (t : Int)) (by go_simp) ?_
            simp only [Act.put, List.setIfInBounds_toArray, List.set_cons_zero, List.set_cons_succ]
            refine WL.val (by kernel_rfl) (.int .i64 ((t : Int) + 1)) (by go_simp) ?_
            simp only [Act.put, List.setIfInBounds_toArray, List.set_cons_zero, List.set_cons_succ]
            refine WL.val (by kernel_rfl) (.int .i64 ((t : Int) + 1)) (by go_simp) ?_
            simp only [Act.put, List.setIfInBounds_toArray, List.set_cons_zero, List.set_cons_succ]
            refine WL.nil ?_
            have hE : L0 ++ numL l.length ++ (l.take (t + 1)).flatMap oneF = L1 ++ [x.kind] ++ bform (lst x.key) ++ bform (lst x.text) ++ numL (zig x.n) ++ numL on ++ hl 32 (hof x.node) := by
              rw [HFull.out]; unfold tl
              rw [if_pos q38, if_pos h11_2, if_pos q55, if_neg h16_3]
              rw [Hon.out]
              simp
            refine ⟨⟨t + 1, u_8, .pointer (some ⟨gx, 0, none⟩), .bool true, .bool true, .int .i64 (t : Int), .slice va l.length vc, .int .i64 (l.length : Int), .bool true, .int .i64 (t : Int), .int .i64 ((t : Int) + 1), .slice va l.length vc, .int .i64 (t : Int), .pointer (some ⟨gL, ofL + t * 37, none⟩), .agg (opA x), u0, .pointer (some ⟨gx, 0, none⟩), .int .i64 x.kind, .int .u8 x.kind, .slice (some ⟨w_0.heap.size, 0, none⟩) 1 1, u_1, u_1, .pointer (some ⟨gx, 1, none⟩), .string x.key, vb2, u_3, .pointer (some ⟨gx, 0, none⟩), .int .i64 x.kind, .bool true, .bool true, u_3, .pointer (some ⟨gx, 2, none⟩), .string x.text, vb4, u_5, .pointer (some ⟨gx, 0, none⟩), .int .i64 x.kind, .bool true, u_5, .pointer (some ⟨gx, 3, none⟩), .int .i64 x.n, .int .u64 (zig x.n : Int), u_6, .pointer (some ⟨gx, 0, none⟩), .int .i64 x.kind, .bool true, .bool true, u_6, .pointer (some ⟨gx, 4, none⟩), .pointer (some ⟨gx, 36, none⟩), .int .i64 x.op, .int .u64 (on : Int), u_7, .pointer (some ⟨gx, 4, none⟩), .pointer (some ⟨gx, 36, none⟩), .int .i64 x.op, .bool true, u_7, .pointer (some ⟨gx, 4, none⟩), .pointer (some ⟨gx, 4, none⟩), .agg (bytesA 32 (hof x.node)), u_8, rfl, by omega, by rw [hE]; exact H8.out⟩, ?_⟩
            simp only [intOf]; show l.length - ((t : Int) + 1).toNat < l.length - ((t : Int)).toNat; omega
        · have q55 := h14_0
          rw [h14_0]
          refine WL.val (by kernel_rfl) (.bool false) (by go_simp) ?_
          simp only [Act.put, List.setIfInBounds_toArray, List.set_cons_zero, List.set_cons_succ]
          refine WL.nil ?_
          refine hK17 _ _ ?_
          refine wp_cond_false rfl ?_
          refine wp_skip ?_
          refine hK7 _ _ ?_
          refine wp_region_list (WL.out ?_)
          refine WL.val (by kernel_rfl) (.int .i64 (t : Int)) (by go_simp) ?_
          simp only [Act.put, List.setIfInBounds_toArray, List.set_cons_zero, List.set_cons_succ]
          refine WL.val (by kernel_rfl) (.int .i64 ((t : Int) + 1)) (by go_simp) ?_
          simp only [Act.put, List.setIfInBounds_toArray, List.set_cons_zero, List.set_cons_succ]
          refine WL.val (by kernel_rfl) (.int .i64 ((t : Int) + 1)) (by go_simp) ?_
          simp only [Act.put, List.setIfInBounds_toArray, List.set_cons_zero, List.set_cons_succ]
          refine WL.nil ?_
          have hE : L0 ++ numL l.length ++ (l.take (t + 1)).flatMap oneF = L1 ++ [x.kind] ++ bform (lst x.key) ++ bform (lst x.text) ++ numL (zig x.n) := by
            rw [HFull.out]; unfold tl
            rw [if_pos q38, if_pos h11_2, if_neg (show ¬ hat x.kind = true by rw [q55]; decide)]
            simp
          refine ⟨⟨t + 1, u_6, .pointer (some ⟨gx, 0, none⟩), .bool true, .bool false, .int .i64 (t : Int), .slice va l.length vc, .int .i64 (l.length : Int), .bool true, .int .i64 (t : Int), .int .i64 ((t : Int) + 1), .slice va l.length vc, .int .i64 (t : Int), .pointer (some ⟨gL, ofL + t * 37, none⟩), .agg (opA x), u0, .pointer (some ⟨gx, 0, none⟩), .int .i64 x.kind, .int .u8 x.kind, .slice (some ⟨w_0.heap.size, 0, none⟩) 1 1, u_1, u_1, .pointer (some ⟨gx, 1, none⟩), .string x.key, vb2, u_3, .pointer (some ⟨gx, 0, none⟩), .int .i64 x.kind, .bool true, .bool true, u_3, .pointer (some ⟨gx, 2, none⟩), .string x.text, vb4, u_5, .pointer (some ⟨gx, 0, none⟩), .int .i64 x.kind, .bool true, u_5, .pointer (some ⟨gx, 3, none⟩), .int .i64 x.n, .int .u64 (zig x.n : Int), u_6, .pointer (some ⟨gx, 0, none⟩), .int .i64 x.kind, .bool false, .bool false, u56, u57, u58, u59, u60, u61, u62, u63, u64, u65, u66, u67, u68, u69, u70, rfl, by omega, by rw [hE]; exact H6.out⟩, ?_⟩
          simp only [intOf]; show l.length - ((t : Int) + 1).toNat < l.length - ((t : Int)).toNat; omega
      · skip
        refine WL.val (by kernel_rfl) (.bool false) (by go_simp) ?_
        simp only [Act.put, List.setIfInBounds_toArray, List.set_cons_zero, List.set_cons_succ]
        refine WL.nil ?_
        refine hK15 _ _ ?_
        refine wp_cond_false rfl ?_
        refine wp_skip ?_
        refine hK14 _ _ ?_
        refine wp_seq_k fun K20 hK20 => ?_
        refine wp_region_list (WL.out ?_)
        refine WL.val (by kernel_rfl) (.pointer (some ⟨gx, 0, none⟩)) (by go_simp) ?_
        simp only [Act.put, List.setIfInBounds_toArray, List.set_cons_zero, List.set_cons_succ]
        refine WL.val (by kernel_rfl) (.int .i64 x.kind) (by go_simp) ?_
        simp only [Act.put, List.setIfInBounds_toArray, List.set_cons_zero, List.set_cons_succ]
        refine WL.callF (by kernel_rfl) 45 _ _ rfl Try.in45 #[.int .i64 x.kind] (by simp [Act.eval]) ?_
        refine (hasAt_any x.kind w_5).mono ?_
        rintro e w_y ⟨rfl, hwy⟩
        rw [hwy]
        clear hwy w_y
        refine ⟨_, rfl, ?_⟩
        simp only [Act.put, List.setIfInBounds_toArray, List.set_cons_zero, List.set_cons_succ]
        refine WL.val (by kernel_rfl) (.bool (hat x.kind)) (by go_simp) ?_
        simp only [Act.put, List.setIfInBounds_toArray, List.set_cons_zero, List.set_cons_succ]
        refine WL.nil ?_
        refine hK20 _ _ ?_
        refine wp_seq_k fun K21 hK21 => ?_
        refine wp_region_list (WL.out ?_)
        rcases Bool.eq_false_or_eq_true (hat x.kind) with h14_0 | h14_0
        · have q55 := h14_0
          rw [h14_0]
          refine WL.val (by kernel_rfl) (.bool true) (by go_simp) ?_
          simp only [Act.put, List.setIfInBounds_toArray, List.set_cons_zero, List.set_cons_succ]
          refine WL.nil ?_
          refine hK21 _ _ ?_
          refine wp_cond_true rfl ?_
          refine wp_seq_k fun K22 hK22 => ?_
          refine wp_region_list (WL.out ?_)
          refine WL.val (by kernel_rfl) (u_5) (by go_simp) ?_
          simp only [Act.put, List.setIfInBounds_toArray, List.set_cons_zero, List.set_cons_succ]
          refine WL.val (by kernel_rfl) (.pointer (some ⟨gx, 4, none⟩)) (by go_simp) ?_
          simp only [Act.put, List.setIfInBounds_toArray, List.set_cons_zero, List.set_cons_succ]
          refine WL.val (by kernel_rfl) (.pointer (some ⟨gx, 36, none⟩)) (by go_simp) ?_
          simp only [Act.put, List.setIfInBounds_toArray, List.set_cons_zero, List.set_cons_succ]
          refine WL.val (by kernel_rfl) (.int .i64 x.op) (by go_simp) ?_
          simp only [Act.put, List.setIfInBounds_toArray, List.set_cons_zero, List.set_cons_succ]
          obtain ⟨on, hon⟩ : ∃ on : Nat, Keep (x.op = (on : Int)) := ⟨x.op.toNat, ⟨by have := (HHat.out q55).1; omega⟩⟩
          have hwo : IntKind.u64.wrap x.op = (on : Int) := by rw [hon.out, IntKind.wrap_u64]; have := (HHat.out q55).2; have := hon.out; omega
          have Hon : Keep (x.op.toNat = on) := ⟨by rw [hon.out, Int.toNat_natCast]⟩
          refine WL.val (by kernel_rfl) (.int .u64 (on : Int)) (by go_simp) ?_
          simp only [Act.put, List.setIfInBounds_toArray, List.set_cons_zero, List.set_cons_succ]
          refine WL.callF (by kernel_rfl) 41 _ _ rfl Try.in41 #[u_5, .int .u64 (on : Int)] (by simp [Act.eval]) ?_
          refine (rnum_any u_5 (L1 ++ [x.kind] ++ bform (lst x.key) ++ bform (lst x.text)) on w_5 H5.out.own (by have := (HHat.out q55).2; have := hon.out; omega) (by have := Hbd.out; unfold tl at this; rw [if_pos q38, if_neg h11_2, if_pos q55] at this; rw [Hon.out] at this; simp only [List.length_append, List.length_cons, List.length_nil] at this ⊢; omega)).mono ?_
          rintro e w_6 hp
          obtain ⟨u_6, rfl, hq1, hq2, hq3⟩ := hp
          refine ⟨_, rfl, ?_⟩
          have H6 := Keep.mk (H5.out.step hq1 hq2 hq3)
          have X6 := Keep.mk (own_keeps H5.out.own X5.out (by decide) hq3)
          clear hq1 hq2 hq3
          clear c5_0 c5_1 c5_2 c5_3 c5_36
          have c6_0 := X6.out.c 0 (opA_0 x)
          have c6_1 := X6.out.c 1 (opA_1 x)
          have c6_2 := X6.out.c 2 (opA_2 x)
          have c6_3 := X6.out.c 3 (opA_3 x)
          have c6_36 := X6.out.c 36 (opA_36 x)
          simp only [Act.put, List.setIfInBounds_toArray, List.set_cons_zero, List.set_cons_succ]
          refine WL.val (by kernel_rfl) (u_6) (by go_simp) ?_
          simp only [Act.put, List.setIfInBounds_toArray, List.set_cons_zero, List.set_cons_succ]
          refine WL.nil ?_
          refine hK22 _ _ ?_
          refine wp_seq_k fun K23 hK23 => ?_
          refine wp_region_list (WL.out ?_)
          refine WL.val (by kernel_rfl) (.pointer (some ⟨gx, 4, none⟩)) (by go_simp) ?_
          simp only [Act.put, List.setIfInBounds_toArray, List.set_cons_zero, List.set_cons_succ]
          refine WL.val (by kernel_rfl) (.pointer (some ⟨gx, 36, none⟩)) (by go_simp) ?_
          simp only [Act.put, List.setIfInBounds_toArray, List.set_cons_zero, List.set_cons_succ]
          refine WL.val (by kernel_rfl) (.int .i64 x.op) (by go_simp) ?_
          simp only [Act.put, List.setIfInBounds_toArray, List.set_cons_zero, List.set_cons_succ]
          by_cases h16_3 : x.op = 0
          · skip
            refine WL.val (by kernel_rfl) (.bool false) (by go_simp) ?_
            simp only [Act.put, List.setIfInBounds_toArray, List.set_cons_zero, List.set_cons_succ]
            refine WL.nil ?_
            refine hK23 _ _ ?_
            refine wp_cond_false rfl ?_
            refine wp_skip ?_
            refine hK7 _ _ ?_
            refine wp_region_list (WL.out ?_)
            refine WL.val (by kernel_rfl) (.int .i64 (t : Int)) (by go_simp) ?_
            simp only [Act.put, List.setIfInBounds_toArray, List.set_cons_zero, List.set_cons_succ]
            refine WL.val (by kernel_rfl) (.int .i64 ((t : Int) + 1)) (by go_simp) ?_
            simp only [Act.put, List.setIfInBounds_toArray, List.set_cons_zero, List.set_cons_succ]
            refine WL.val (by kernel_rfl) (.int .i64 ((t : Int) + 1)) (by go_simp) ?_
            simp only [Act.put, List.setIfInBounds_toArray, List.set_cons_zero, List.set_cons_succ]
            refine WL.nil ?_
            have hE : L0 ++ numL l.length ++ (l.take (t + 1)).flatMap oneF = L1 ++ [x.kind] ++ bform (lst x.key) ++ bform (lst x.text) ++ numL on := by
              rw [HFull.out]; unfold tl
              rw [if_pos q38, if_neg h11_2, if_pos q55, if_pos h16_3]
              rw [Hon.out]
              simp
            refine ⟨⟨t + 1, u_6, .pointer (some ⟨gx, 0, none⟩), .bool true, .bool true, .int .i64 (t : Int), .slice va l.length vc, .int .i64 (l.length : Int), .bool true, .int .i64 (t : Int), .int .i64 ((t : Int) + 1), .slice va l.length vc, .int .i64 (t : Int), .pointer (some ⟨gL, ofL + t * 37, none⟩), .agg (opA x), u0, .pointer (some ⟨gx, 0, none⟩), .int .i64 x.kind, .int .u8 x.kind, .slice (some ⟨w_0.heap.size, 0, none⟩) 1 1, u_1, u_1, .pointer (some ⟨gx, 1, none⟩), .string x.key, vb2, u_3, .pointer (some ⟨gx, 0, none⟩), .int .i64 x.kind, .bool true, .bool true, u_3, .pointer (some ⟨gx, 2, none⟩), .string x.text, vb4, u_5, .pointer (some ⟨gx, 0, none⟩), .int .i64 x.kind, .bool false, u47, u48, u49, u50, u51, .pointer (some ⟨gx, 0, none⟩), .int .i64 x.kind, .bool true, .bool true, u_5, .pointer (some ⟨gx, 4, none⟩), .pointer (some ⟨gx, 36, none⟩), .int .i64 x.op, .int .u64 (on : Int), u_6, .pointer (some ⟨gx, 4, none⟩), .pointer (some ⟨gx, 36, none⟩), .int .i64 x.op, .bool false, u66, u67, u68, u69, u70, rfl, by omega, by rw [hE]; exact H6.out⟩, ?_⟩
            simp only [intOf]; show l.length - ((t : Int) + 1).toNat < l.length - ((t : Int)).toNat; omega
          · skip
            refine WL.val (by kernel_rfl) (.bool true) (by go_simp) ?_
            simp only [Act.put, List.setIfInBounds_toArray, List.set_cons_zero, List.set_cons_succ]
            refine WL.nil ?_
            refine hK23 _ _ ?_
            refine wp_cond_true rfl ?_
            refine wp_region_list (WL.out ?_)
            refine WL.val (by kernel_rfl) (u_6) (by go_simp) ?_
            simp only [Act.put, List.setIfInBounds_toArray, List.set_cons_zero, List.set_cons_succ]
            refine WL.val (by kernel_rfl) (.pointer (some ⟨gx, 4, none⟩)) (by go_simp) ?_
            simp only [Act.put, List.setIfInBounds_toArray, List.set_cons_zero, List.set_cons_succ]
            refine WL.val (by kernel_rfl) (.pointer (some ⟨gx, 4, none⟩)) (by go_simp) ?_
            simp only [Act.put, List.setIfInBounds_toArray, List.set_cons_zero, List.set_cons_succ]
            refine WL.midA (by kernel_rfl) 55 (.tmp 68) rfl gx 4 rfl (bytesA 32 (hof x.node)) _ (opA_nodes X6.out) Try.underlying55 rfl (Try.size55B _) ?_
            simp only [Act.put, List.setIfInBounds_toArray, List.set_cons_zero, List.set_cons_succ]
            refine WL.callF (by kernel_rfl) 46 _ _ rfl Try.in46 #[u_6, .agg (bytesA 32 (hof x.node))] (by simp [Act.eval]) ?_
            refine (rhash_any u_6 (L1 ++ [x.kind] ++ bform (lst x.key) ++ bform (lst x.text) ++ numL on) (hof x.node) w_6 H6.out.own (by have := Hbd.out; unfold tl at this; rw [if_pos q38, if_neg h11_2, if_pos q55, if_neg h16_3] at this; rw [Hon.out] at this; simp only [hl_len, List.length_append, List.length_cons, List.length_nil] at this ⊢; omega)).mono ?_
            rintro e w_7 hp
            obtain ⟨u_7, rfl, hq1, hq2, hq3⟩ := hp
            refine ⟨_, rfl, ?_⟩
            have H7 := Keep.mk (H6.out.step hq1 hq2 hq3)
            have X7 := Keep.mk (own_keeps H6.out.own X6.out (by decide) hq3)
            clear hq1 hq2 hq3
            clear c6_0 c6_1 c6_2 c6_3 c6_36
            have c7_0 := X7.out.c 0 (opA_0 x)
            have c7_1 := X7.out.c 1 (opA_1 x)
            have c7_2 := X7.out.c 2 (opA_2 x)
            have c7_3 := X7.out.c 3 (opA_3 x)
            have c7_36 := X7.out.c 36 (opA_36 x)
            simp only [Act.put, List.setIfInBounds_toArray, List.set_cons_zero, List.set_cons_succ]
            refine WL.val (by kernel_rfl) (u_7) (by go_simp) ?_
            simp only [Act.put, List.setIfInBounds_toArray, List.set_cons_zero, List.set_cons_succ]
            refine WL.nil ?_
            refine hK7 _ _ ?_
            refine wp_region_list (WL.out ?_)
            refine WL.val (by kernel_rfl) (.int .i64 (t : Int)) (by go_simp) ?_
            simp only [Act.put, List.setIfInBounds_toArray, List.set_cons_zero, List.set_cons_succ]
            refine WL.val (by kernel_rfl) (.int .i64 ((t : Int) + 1)) (by go_simp) ?_
            simp only [Act.put, List.setIfInBounds_toArray, List.set_cons_zero, List.set_cons_succ]
            refine WL.val (by kernel_rfl) (.int .i64 ((t : Int) + 1)) (by go_simp) ?_
            simp only [Act.put, List.setIfInBounds_toArray, List.set_cons_zero, List.set_cons_succ]
            refine WL.nil ?_
            have hE : L0 ++ numL l.length ++ (l.take (t + 1)).flatMap oneF = L1 ++ [x.kind] ++ bform (lst x.key) ++ bform (lst x.text) ++ numL on ++ hl 32 (hof x.node) := by
              rw [HFull.out]; unfold tl
              rw [if_pos q38, if_neg h11_2, if_pos q55, if_neg h16_3]
              rw [Hon.out]
              simp
            refine ⟨⟨t + 1, u_7, .pointer (some ⟨gx, 0, none⟩), .bool true, .bool true, .int .i64 (t : Int), .slice va l.length vc, .int .i64 (l.length : Int), .bool true, .int .i64 (t : Int), .int .i64 ((t : Int) + 1), .slice va l.length vc, .int .i64 (t : Int), .pointer (some ⟨gL, ofL + t * 37, none⟩), .agg (opA x), u0, .pointer (some ⟨gx, 0, none⟩), .int .i64 x.kind, .int .u8 x.kind, .slice (some ⟨w_0.heap.size, 0, none⟩) 1 1, u_1, u_1, .pointer (some ⟨gx, 1, none⟩), .string x.key, vb2, u_3, .pointer (some ⟨gx, 0, none⟩), .int .i64 x.kind, .bool true, .bool true, u_3, .pointer (some ⟨gx, 2, none⟩), .string x.text, vb4, u_5, .pointer (some ⟨gx, 0, none⟩), .int .i64 x.kind, .bool false, u47, u48, u49, u50, u51, .pointer (some ⟨gx, 0, none⟩), .int .i64 x.kind, .bool true, .bool true, u_5, .pointer (some ⟨gx, 4, none⟩), .pointer (some ⟨gx, 36, none⟩), .int .i64 x.op, .int .u64 (on : Int), u_6, .pointer (some ⟨gx, 4, none⟩), .pointer (some ⟨gx, 36, none⟩), .int .i64 x.op, .bool true, u_6, .pointer (some ⟨gx, 4, none⟩), .pointer (some ⟨gx, 4, none⟩), .agg (bytesA 32 (hof x.node)), u_7, rfl, by omega, by rw [hE]; exact H7.out⟩, ?_⟩
            simp only [intOf]; show l.length - ((t : Int) + 1).toNat < l.length - ((t : Int)).toNat; omega
        · have q55 := h14_0
          rw [h14_0]
          refine WL.val (by kernel_rfl) (.bool false) (by go_simp) ?_
          simp only [Act.put, List.setIfInBounds_toArray, List.set_cons_zero, List.set_cons_succ]
          refine WL.nil ?_
          refine hK21 _ _ ?_
          refine wp_cond_false rfl ?_
          refine wp_skip ?_
          refine hK7 _ _ ?_
          refine wp_region_list (WL.out ?_)
          refine WL.val (by kernel_rfl) (.int .i64 (t : Int)) (by go_simp) ?_
          simp only [Act.put, List.setIfInBounds_toArray, List.set_cons_zero, List.set_cons_succ]
          refine WL.val (by kernel_rfl) (.int .i64 ((t : Int) + 1)) (by go_simp) ?_
          simp only [Act.put, List.setIfInBounds_toArray, List.set_cons_zero, List.set_cons_succ]
          refine WL.val (by kernel_rfl) (.int .i64 ((t : Int) + 1)) (by go_simp) ?_
          simp only [Act.put, List.setIfInBounds_toArray, List.set_cons_zero, List.set_cons_succ]
          refine WL.nil ?_
          have hE : L0 ++ numL l.length ++ (l.take (t + 1)).flatMap oneF = L1 ++ [x.kind] ++ bform (lst x.key) ++ bform (lst x.text) := by
            rw [HFull.out]; unfold tl
            rw [if_pos q38, if_neg h11_2, if_neg (show ¬ hat x.kind = true by rw [q55]; decide)]
            simp
          refine ⟨⟨t + 1, u_5, .pointer (some ⟨gx, 0, none⟩), .bool true, .bool false, .int .i64 (t : Int), .slice va l.length vc, .int .i64 (l.length : Int), .bool true, .int .i64 (t : Int), .int .i64 ((t : Int) + 1), .slice va l.length vc, .int .i64 (t : Int), .pointer (some ⟨gL, ofL + t * 37, none⟩), .agg (opA x), u0, .pointer (some ⟨gx, 0, none⟩), .int .i64 x.kind, .int .u8 x.kind, .slice (some ⟨w_0.heap.size, 0, none⟩) 1 1, u_1, u_1, .pointer (some ⟨gx, 1, none⟩), .string x.key, vb2, u_3, .pointer (some ⟨gx, 0, none⟩), .int .i64 x.kind, .bool true, .bool true, u_3, .pointer (some ⟨gx, 2, none⟩), .string x.text, vb4, u_5, .pointer (some ⟨gx, 0, none⟩), .int .i64 x.kind, .bool false, u47, u48, u49, u50, u51, .pointer (some ⟨gx, 0, none⟩), .int .i64 x.kind, .bool false, .bool false, u56, u57, u58, u59, u60, u61, u62, u63, u64, u65, u66, u67, u68, u69, u70, rfl, by omega, by rw [hE]; exact H5.out⟩, ?_⟩
          simp only [intOf]; show l.length - ((t : Int) + 1).toNat < l.length - ((t : Int)).toNat; omega
    · have q38 := h9_0
      rw [h9_0]
      refine WL.val (by kernel_rfl) (.bool false) (by go_simp) ?_
      simp only [Act.put, List.setIfInBounds_toArray, List.set_cons_zero, List.set_cons_succ]
      refine WL.nil ?_
      refine hK13 _ _ ?_
      refine wp_cond_false rfl ?_
      refine wp_skip ?_
      refine hK12 _ _ ?_
      refine wp_seq_k fun K24 hK24 => ?_
      refine wp_seq_k fun K25 hK25 => ?_
      refine wp_region_list (WL.out ?_)
      refine WL.val (by kernel_rfl) (.pointer (some ⟨gx, 0, none⟩)) (by go_simp) ?_
      simp only [Act.put, List.setIfInBounds_toArray, List.set_cons_zero, List.set_cons_succ]
      refine WL.val (by kernel_rfl) (.int .i64 x.kind) (by go_simp) ?_
      simp only [Act.put, List.setIfInBounds_toArray, List.set_cons_zero, List.set_cons_succ]
      by_cases h11_2 : x.kind = 6
      · skip
        refine WL.val (by kernel_rfl) (.bool true) (by go_simp) ?_
        simp only [Act.put, List.setIfInBounds_toArray, List.set_cons_zero, List.set_cons_succ]
        refine WL.nil ?_
        refine hK25 _ _ ?_
        refine wp_cond_true rfl ?_
        refine wp_region_list (WL.out ?_)
        refine WL.val (by kernel_rfl) (u_3) (by go_simp) ?_
        simp only [Act.put, List.setIfInBounds_toArray, List.set_cons_zero, List.set_cons_succ]
        refine WL.val (by kernel_rfl) (.pointer (some ⟨gx, 3, none⟩)) (by go_simp) ?_
        simp only [Act.put, List.setIfInBounds_toArray, List.set_cons_zero, List.set_cons_succ]
        refine WL.val (by kernel_rfl) (.int .i64 x.n) (by go_simp) ?_
        simp only [Act.put, List.setIfInBounds_toArray, List.set_cons_zero, List.set_cons_succ]
        refine WL.callF (by kernel_rfl) 44 _ _ rfl Try.in44 #[.int .i64 x.n] (by simp [Act.eval]) ?_
        refine (rzig_any x.n w_3 Hx.out.n1 Hx.out.n2).mono ?_
        rintro e w_y ⟨rfl, hwy⟩
        rw [hwy]
        clear hwy w_y
        refine ⟨_, rfl, ?_⟩
        simp only [Act.put, List.setIfInBounds_toArray, List.set_cons_zero, List.set_cons_succ]
        refine WL.callF (by kernel_rfl) 41 _ _ rfl Try.in41 #[u_3, .int .u64 (zig x.n : Int)] (by simp [Act.eval]) ?_
        refine (rnum_any u_3 (L1 ++ [x.kind] ++ bform (lst x.key)) (zig x.n) w_3 H3.out.own (zig_lt _ Hx.out.n1 Hx.out.n2) (by have := Hbd.out; unfold tl at this; rw [if_neg (show ¬ txt x.kind = true by rw [q38]; decide), if_pos h11_2] at this; simp only [List.length_append, List.length_cons, List.length_nil] at this ⊢; omega)).mono ?_
        rintro e w_4 hp
        obtain ⟨u_4, rfl, hq1, hq2, hq3⟩ := hp
        refine ⟨_, rfl, ?_⟩
        have H4 := Keep.mk (H3.out.step hq1 hq2 hq3)
        have X4 := Keep.mk (own_keeps H3.out.own X3.out (by decide) hq3)
        clear hq1 hq2 hq3
        clear c3_0 c3_1 c3_2 c3_3 c3_36
        have c4_0 := X4.out.c 0 (opA_0 x)
        have c4_1 := X4.out.c 1 (opA_1 x)
        have c4_2 := X4.out.c 2 (opA_2 x)
        have c4_3 := X4.out.c 3 (opA_3 x)
        have c4_36 := X4.out.c 36 (opA_36 x)
        simp only [Act.put, List.setIfInBounds_toArray, List.set_cons_zero, List.set_cons_succ]
        refine WL.val (by kernel_rfl) (u_4) (by go_simp) ?_
        simp only [Act.put, List.setIfInBounds_toArray, List.set_cons_zero, List.set_cons_succ]
        refine WL.nil ?_
        refine hK24 _ _ ?_
        refine wp_seq_k fun K26 hK26 => ?_
        refine wp_region_list (WL.out ?_)
        refine WL.val (by kernel_rfl) (.pointer (some ⟨gx, 0, none⟩)) (by go_simp) ?_
        simp only [Act.put, List.setIfInBounds_toArray, List.set_cons_zero, List.set_cons_succ]
        refine WL.val (by kernel_rfl) (.int .i64 x.kind) (by go_simp) ?_
        simp only [Act.put, List.setIfInBounds_toArray, List.set_cons_zero, List.set_cons_succ]
        refine WL.callF (by kernel_rfl) 45 _ _ rfl Try.in45 #[.int .i64 x.kind] (by simp [Act.eval]) ?_
        refine (hasAt_any x.kind w_4).mono ?_
        rintro e w_y ⟨rfl, hwy⟩
        rw [hwy]
        clear hwy w_y
        refine ⟨_, rfl, ?_⟩
        simp only [Act.put, List.setIfInBounds_toArray, List.set_cons_zero, List.set_cons_succ]
        refine WL.val (by kernel_rfl) (.bool (hat x.kind)) (by go_simp) ?_
        simp only [Act.put, List.setIfInBounds_toArray, List.set_cons_zero, List.set_cons_succ]
        refine WL.nil ?_
        refine hK26 _ _ ?_
        refine wp_seq_k fun K27 hK27 => ?_
        refine wp_region_list (WL.out ?_)
        rcases Bool.eq_false_or_eq_true (hat x.kind) with h14_0 | h14_0
        · have q55 := h14_0
          rw [h14_0]
          refine WL.val (by kernel_rfl) (.bool true) (by go_simp) ?_
          simp only [Act.put, List.setIfInBounds_toArray, List.set_cons_zero, List.set_cons_succ]
          refine WL.nil ?_
          refine hK27 _ _ ?_
          refine wp_cond_true rfl ?_
          refine wp_seq_k fun K28 hK28 => ?_
          refine wp_region_list (WL.out ?_)
          refine WL.val (by kernel_rfl) (u_4) (by go_simp) ?_
          simp only [Act.put, List.setIfInBounds_toArray, List.set_cons_zero, List.set_cons_succ]
          refine WL.val (by kernel_rfl) (.pointer (some ⟨gx, 4, none⟩)) (by go_simp) ?_
          simp only [Act.put, List.setIfInBounds_toArray, List.set_cons_zero, List.set_cons_succ]
          refine WL.val (by kernel_rfl) (.pointer (some ⟨gx, 36, none⟩)) (by go_simp) ?_
          simp only [Act.put, List.setIfInBounds_toArray, List.set_cons_zero, List.set_cons_succ]
          refine WL.val (by kernel_rfl) (.int .i64 x.op) (by go_simp) ?_
          simp only [Act.put, List.setIfInBounds_toArray, List.set_cons_zero, List.set_cons_succ]
          obtain ⟨on, hon⟩ : ∃ on : Nat, Keep (x.op = (on : Int)) := ⟨x.op.toNat, ⟨by have := (HHat.out q55).1; omega⟩⟩
          have hwo : IntKind.u64.wrap x.op = (on : Int) := by rw [hon.out, IntKind.wrap_u64]; have := (HHat.out q55).2; have := hon.out; omega
          have Hon : Keep (x.op.toNat = on) := ⟨by rw [hon.out, Int.toNat_natCast]⟩
          refine WL.val (by kernel_rfl) (.int .u64 (on : Int)) (by go_simp) ?_
          simp only [Act.put, List.setIfInBounds_toArray, List.set_cons_zero, List.set_cons_succ]
          refine WL.callF (by kernel_rfl) 41 _ _ rfl Try.in41 #[u_4, .int .u64 (on : Int)] (by simp [Act.eval]) ?_
          refine (rnum_any u_4 (L1 ++ [x.kind] ++ bform (lst x.key) ++ numL (zig x.n)) on w_4 H4.out.own (by have := (HHat.out q55).2; have := hon.out; omega) (by have := Hbd.out; unfold tl at this; rw [if_neg (show ¬ txt x.kind = true by rw [q38]; decide), if_pos h11_2, if_pos q55] at this; rw [Hon.out] at this; simp only [List.length_append, List.length_cons, List.length_nil] at this ⊢; omega)).mono ?_
          rintro e w_5 hp
          obtain ⟨u_5, rfl, hq1, hq2, hq3⟩ := hp
          refine ⟨_, rfl, ?_⟩
          have H5 := Keep.mk (H4.out.step hq1 hq2 hq3)
          have X5 := Keep.mk (own_keeps H4.out.own X4.out (by decide) hq3)
          clear hq1 hq2 hq3
          clear c4_0 c4_1 c4_2 c4_3 c4_36
          have c5_0 := X5.out.c 0 (opA_0 x)
          have c5_1 := X5.out.c 1 (opA_1 x)
          have c5_2 := X5.out.c 2 (opA_2 x)
          have c5_3 := X5.out.c 3 (opA_3 x)
          have c5_36 := X5.out.c 36 (opA_36 x)
          simp only [Act.put, List.setIfInBounds_toArray, List.set_cons_zero, List.set_cons_succ]
          refine WL.val (by kernel_rfl) (u_5) (by go_simp) ?_
          simp only [Act.put, List.setIfInBounds_toArray, List.set_cons_zero, List.set_cons_succ]
          refine WL.nil ?_
          refine hK28 _ _ ?_
          refine wp_seq_k fun K29 hK29 => ?_
          refine wp_region_list (WL.out ?_)
          refine WL.val (by kernel_rfl) (.pointer (some ⟨gx, 4, none⟩)) (by go_simp) ?_
          simp only [Act.put, List.setIfInBounds_toArray, List.set_cons_zero, List.set_cons_succ]
          refine WL.val (by kernel_rfl) (.pointer (some ⟨gx, 36, none⟩)) (by go_simp) ?_
          simp only [Act.put, List.setIfInBounds_toArray, List.set_cons_zero, List.set_cons_succ]
          refine WL.val (by kernel_rfl) (.int .i64 x.op) (by go_simp) ?_
          simp only [Act.put, List.setIfInBounds_toArray, List.set_cons_zero, List.set_cons_succ]
          by_cases h16_3 : x.op = 0
          · skip
            refine WL.val (by kernel_rfl) (.bool false) (by go_simp) ?_
            simp only [Act.put, List.setIfInBounds_toArray, List.set_cons_zero, List.set_cons_succ]
            refine WL.nil ?_
            refine hK29 _ _ ?_
            refine wp_cond_false rfl ?_
            refine wp_skip ?_
            refine hK7 _ _ ?_
            refine wp_region_list (WL.out ?_)
            refine WL.val (by kernel_rfl) (.int .i64 (t : Int)) (by go_simp) ?_
            simp only [Act.put, List.setIfInBounds_toArray, List.set_cons_zero, List.set_cons_succ]
            refine WL.val (by kernel_rfl) (.int .i64 ((t : Int) + 1)) (by go_simp) ?_
            simp only [Act.put, List.setIfInBounds_toArray, List.set_cons_zero, List.set_cons_succ]
            refine WL.val (by kernel_rfl) (.int .i64 ((t : Int) + 1)) (by go_simp) ?_
            simp only [Act.put, List.setIfInBounds_toArray, List.set_cons_zero, List.set_cons_succ]
            refine WL.nil ?_
            have hE : L0 ++ numL l.length ++ (l.take (t + 1)).flatMap oneF = L1 ++ [x.kind] ++ bform (lst x.key) ++ numL (zig x.n) ++ numL on := by
              rw [HFull.out]; unfold tl
              rw [if_neg (show ¬ txt x.kind = true by rw [q38]; decide), if_pos h11_2, if_pos q55, if_pos h16_3]
              rw [Hon.out]
              simp
            refine ⟨⟨t + 1, u_5, .pointer (some ⟨gx, 0, none⟩), .bool false, .bool true, .int .i64 (t : Int), .slice va l.length vc, .int .i64 (l.length : Int), .bool true, .int .i64 (t : Int), .int .i64 ((t : Int) + 1), .slice va l.length vc, .int .i64 (t : Int), .pointer (some ⟨gL, ofL + t * 37, none⟩), .agg (opA x), u0, .pointer (some ⟨gx, 0, none⟩), .int .i64 x.kind, .int .u8 x.kind, .slice (some ⟨w_0.heap.size, 0, none⟩) 1 1, u_1, u_1, .pointer (some ⟨gx, 1, none⟩), .string x.key, vb2, u_3, .pointer (some ⟨gx, 0, none⟩), .int .i64 x.kind, .bool false, .bool false, u39, u40, u41, u42, u43, .pointer (some ⟨gx, 0, none⟩), .int .i64 x.kind, .bool true, u_3, .pointer (some ⟨gx, 3, none⟩), .int .i64 x.n, .int .u64 (zig x.n : Int), u_4, .pointer (some ⟨gx, 0, none⟩), .int .i64 x.kind, .bool true, .bool true, u_4, .pointer (some ⟨gx, 4, none⟩), .pointer (some ⟨gx, 36, none⟩), .int .i64 x.op, .int .u64 (on : Int), u_5, .pointer (some ⟨gx, 4, none⟩), .pointer (some ⟨gx, 36, none⟩), .int .i64 x.op, .bool false, u66, u67, u68, u69, u70, rfl, by omega, by rw [hE]; exact H5.out⟩, ?_⟩
            simp only [intOf]; show l.length - ((t : Int) + 1).toNat < l.length - ((t : Int)).toNat; omega
          · skip
            refine WL.val (by kernel_rfl) (.bool true) (by go_simp) ?_
            simp only [Act.put, List.setIfInBounds_toArray, List.set_cons_zero, List.set_cons_succ]
            refine WL.nil ?_
            refine hK29 _ _ ?_
            refine wp_cond_true rfl ?_
            refine wp_region_list (WL.out ?_)
            refine WL.val (by kernel_rfl) (u_5) (by go_simp) ?_
            simp only [Act.put, List.setIfInBounds_toArray, List.set_cons_zero, List.set_cons_succ]
            refine WL.val (by kernel_rfl) (.pointer (some ⟨gx, 4, none⟩)) (by go_simp) ?_
            simp only [Act.put, List.setIfInBounds_toArray, List.set_cons_zero, List.set_cons_succ]
            refine WL.val (by kernel_rfl) (.pointer (some ⟨gx, 4, none⟩)) (by go_simp) ?_
            simp only [Act.put, List.setIfInBounds_toArray, List.set_cons_zero, List.set_cons_succ]
            refine WL.midA (by kernel_rfl) 55 (.tmp 68) rfl gx 4 rfl (bytesA 32 (hof x.node)) _ (opA_nodes X5.out) Try.underlying55 rfl (Try.size55B _) ?_
            simp only [Act.put, List.setIfInBounds_toArray, List.set_cons_zero, List.set_cons_succ]
            refine WL.callF (by kernel_rfl) 46 _ _ rfl Try.in46 #[u_5, .agg (bytesA 32 (hof x.node))] (by simp [Act.eval]) ?_
            refine (rhash_any u_5 (L1 ++ [x.kind] ++ bform (lst x.key) ++ numL (zig x.n) ++ numL on) (hof x.node) w_5 H5.out.own (by have := Hbd.out; unfold tl at this; rw [if_neg (show ¬ txt x.kind = true by rw [q38]; decide), if_pos h11_2, if_pos q55, if_neg h16_3] at this; rw [Hon.out] at this; simp only [hl_len, List.length_append, List.length_cons, List.length_nil] at this ⊢; omega)).mono ?_
            rintro e w_6 hp
            obtain ⟨u_6, rfl, hq1, hq2, hq3⟩ := hp
            refine ⟨_, rfl, ?_⟩
            have H6 := Keep.mk (H5.out.step hq1 hq2 hq3)
            have X6 := Keep.mk (own_keeps H5.out.own X5.out (by decide) hq3)
            clear hq1 hq2 hq3
            clear c5_0 c5_1 c5_2 c5_3 c5_36
            have c6_0 := X6.out.c 0 (opA_0 x)
            have c6_1 := X6.out.c 1 (opA_1 x)
            have c6_2 := X6.out.c 2 (opA_2 x)
            have c6_3 := X6.out.c 3 (opA_3 x)
            have c6_36 := X6.out.c 36 (opA_36 x)
            simp only [Act.put, List.setIfInBounds_toArray, List.set_cons_zero, List.set_cons_succ]
            refine WL.val (by kernel_rfl) (u_6) (by go_simp) ?_
            simp only [Act.put, List.setIfInBounds_toArray, List.set_cons_zero, List.set_cons_succ]
            refine WL.nil ?_
            refine hK7 _ _ ?_
            refine wp_region_list (WL.out ?_)
            refine WL.val (by kernel_rfl) (.int .i64 (t : Int)) (by go_simp) ?_
            simp only [Act.put, List.setIfInBounds_toArray, List.set_cons_zero, List.set_cons_succ]
            refine WL.val (by kernel_rfl) (.int .i64 ((t : Int) + 1)) (by go_simp) ?_
            simp only [Act.put, List.setIfInBounds_toArray, List.set_cons_zero, List.set_cons_succ]
            refine WL.val (by kernel_rfl) (.int .i64 ((t : Int) + 1)) (by go_simp) ?_
            simp only [Act.put, List.setIfInBounds_toArray, List.set_cons_zero, List.set_cons_succ]
            refine WL.nil ?_
            have hE : L0 ++ numL l.length ++ (l.take (t + 1)).flatMap oneF = L1 ++ [x.kind] ++ bform (lst x.key) ++ numL (zig x.n) ++ numL on ++ hl 32 (hof x.node) := by
              rw [HFull.out]; unfold tl
              rw [if_neg (show ¬ txt x.kind = true by rw [q38]; decide), if_pos h11_2, if_pos q55, if_neg h16_3]
              rw [Hon.out]
              simp
            refine ⟨⟨t + 1, u_6, .pointer (some ⟨gx, 0, none⟩), .bool false, .bool true, .int .i64 (t : Int), .slice va l.length vc, .int .i64 (l.length : Int), .bool true, .int .i64 (t : Int), .int .i64 ((t : Int) + 1), .slice va l.length vc, .int .i64 (t : Int), .pointer (some ⟨gL, ofL + t * 37, none⟩), .agg (opA x), u0, .pointer (some ⟨gx, 0, none⟩), .int .i64 x.kind, .int .u8 x.kind, .slice (some ⟨w_0.heap.size, 0, none⟩) 1 1, u_1, u_1, .pointer (some ⟨gx, 1, none⟩), .string x.key, vb2, u_3, .pointer (some ⟨gx, 0, none⟩), .int .i64 x.kind, .bool false, .bool false, u39, u40, u41, u42, u43, .pointer (some ⟨gx, 0, none⟩), .int .i64 x.kind, .bool true, u_3, .pointer (some ⟨gx, 3, none⟩), .int .i64 x.n, .int .u64 (zig x.n : Int), u_4, .pointer (some ⟨gx, 0, none⟩), .int .i64 x.kind, .bool true, .bool true, u_4, .pointer (some ⟨gx, 4, none⟩), .pointer (some ⟨gx, 36, none⟩), .int .i64 x.op, .int .u64 (on : Int), u_5, .pointer (some ⟨gx, 4, none⟩), .pointer (some ⟨gx, 36, none⟩), .int .i64 x.op, .bool true, u_5, .pointer (some ⟨gx, 4, none⟩), .pointer (some ⟨gx, 4, none⟩), .agg (bytesA 32 (hof x.node)), u_6, rfl, by omega, by rw [hE]; exact H6.out⟩, ?_⟩
            simp only [intOf]; show l.length - ((t : Int) + 1).toNat < l.length - ((t : Int)).toNat; omega
        · have q55 := h14_0
          rw [h14_0]
          refine WL.val (by kernel_rfl) (.bool false) (by go_simp) ?_
          simp only [Act.put, List.setIfInBounds_toArray, List.set_cons_zero, List.set_cons_succ]
          refine WL.nil ?_
          refine hK27 _ _ ?_
          refine wp_cond_false rfl ?_
          refine wp_skip ?_
          refine hK7 _ _ ?_
          refine wp_region_list (WL.out ?_)
          refine WL.val (by kernel_rfl) (.int .i64 (t : Int)) (by go_simp) ?_
          simp only [Act.put, List.setIfInBounds_toArray, List.set_cons_zero, List.set_cons_succ]
          refine WL.val (by kernel_rfl) (.int .i64 ((t : Int) + 1)) (by go_simp) ?_
          simp only [Act.put, List.setIfInBounds_toArray, List.set_cons_zero, List.set_cons_succ]
          refine WL.val (by kernel_rfl) (.int .i64 ((t : Int) + 1)) (by go_simp) ?_
          simp only [Act.put, List.setIfInBounds_toArray, List.set_cons_zero, List.set_cons_succ]
          refine WL.nil ?_
          have hE : L0 ++ numL l.length ++ (l.take (t + 1)).flatMap oneF = L1 ++ [x.kind] ++ bform (lst x.key) ++ numL (zig x.n) := by
            rw [HFull.out]; unfold tl
            rw [if_neg (show ¬ txt x.kind = true by rw [q38]; decide), if_pos h11_2, if_neg (show ¬ hat x.kind = true by rw [q55]; decide)]
            simp
          refine ⟨⟨t + 1, u_4, .pointer (some ⟨gx, 0, none⟩), .bool false, .bool false, .int .i64 (t : Int), .slice va l.length vc, .int .i64 (l.length : Int), .bool true, .int .i64 (t : Int), .int .i64 ((t : Int) + 1), .slice va l.length vc, .int .i64 (t : Int), .pointer (some ⟨gL, ofL + t * 37, none⟩), .agg (opA x), u0, .pointer (some ⟨gx, 0, none⟩), .int .i64 x.kind, .int .u8 x.kind, .slice (some ⟨w_0.heap.size, 0, none⟩) 1 1, u_1, u_1, .pointer (some ⟨gx, 1, none⟩), .string x.key, vb2, u_3, .pointer (some ⟨gx, 0, none⟩), .int .i64 x.kind, .bool false, .bool false, u39, u40, u41, u42, u43, .pointer (some ⟨gx, 0, none⟩), .int .i64 x.kind, .bool true, u_3, .pointer (some ⟨gx, 3, none⟩), .int .i64 x.n, .int .u64 (zig x.n : Int), u_4, .pointer (some ⟨gx, 0, none⟩), .int .i64 x.kind, .bool false, .bool false, u56, u57, u58, u59, u60, u61, u62, u63, u64, u65, u66, u67, u68, u69, u70, rfl, by omega, by rw [hE]; exact H4.out⟩, ?_⟩
          simp only [intOf]; show l.length - ((t : Int) + 1).toNat < l.length - ((t : Int)).toNat; omega
      · skip
        refine WL.val (by kernel_rfl) (.bool false) (by go_simp) ?_
        simp only [Act.put, List.setIfInBounds_toArray, List.set_cons_zero, List.set_cons_succ]
        refine WL.nil ?_
        refine hK25 _ _ ?_
        refine wp_cond_false rfl ?_
        refine wp_skip ?_
        refine hK24 _ _ ?_
        refine wp_seq_k fun K30 hK30 => ?_
        refine wp_region_list (WL.out ?_)
        refine WL.val (by kernel_rfl) (.pointer (some ⟨gx, 0, none⟩)) (by go_simp) ?_
        simp only [Act.put, List.setIfInBounds_toArray, List.set_cons_zero, List.set_cons_succ]
        refine WL.val (by kernel_rfl) (.int .i64 x.kind) (by go_simp) ?_
        simp only [Act.put, List.setIfInBounds_toArray, List.set_cons_zero, List.set_cons_succ]
        refine WL.callF (by kernel_rfl) 45 _ _ rfl Try.in45 #[.int .i64 x.kind] (by simp [Act.eval]) ?_
        refine (hasAt_any x.kind w_3).mono ?_
        rintro e w_y ⟨rfl, hwy⟩
        rw [hwy]
        clear hwy w_y
        refine ⟨_, rfl, ?_⟩
        simp only [Act.put, List.setIfInBounds_toArray, List.set_cons_zero, List.set_cons_succ]
        refine WL.val (by kernel_rfl) (.bool (hat x.kind)) (by go_simp) ?_
        simp only [Act.put, List.setIfInBounds_toArray, List.set_cons_zero, List.set_cons_succ]
        refine WL.nil ?_
        refine hK30 _ _ ?_
        refine wp_seq_k fun K31 hK31 => ?_
        refine wp_region_list (WL.out ?_)
        rcases Bool.eq_false_or_eq_true (hat x.kind) with h14_0 | h14_0
        · have q55 := h14_0
          rw [h14_0]
          refine WL.val (by kernel_rfl) (.bool true) (by go_simp) ?_
          simp only [Act.put, List.setIfInBounds_toArray, List.set_cons_zero, List.set_cons_succ]
          refine WL.nil ?_
          refine hK31 _ _ ?_
          refine wp_cond_true rfl ?_
          refine wp_seq_k fun K32 hK32 => ?_
          refine wp_region_list (WL.out ?_)
          refine WL.val (by kernel_rfl) (u_3) (by go_simp) ?_
          simp only [Act.put, List.setIfInBounds_toArray, List.set_cons_zero, List.set_cons_succ]
          refine WL.val (by kernel_rfl) (.pointer (some ⟨gx, 4, none⟩)) (by go_simp) ?_
          simp only [Act.put, List.setIfInBounds_toArray, List.set_cons_zero, List.set_cons_succ]
          refine WL.val (by kernel_rfl) (.pointer (some ⟨gx, 36, none⟩)) (by go_simp) ?_
          simp only [Act.put, List.setIfInBounds_toArray, List.set_cons_zero, List.set_cons_succ]
          refine WL.val (by kernel_rfl) (.int .i64 x.op) (by go_simp) ?_
          simp only [Act.put, List.setIfInBounds_toArray, List.set_cons_zero, List.set_cons_succ]
          obtain ⟨on, hon⟩ : ∃ on : Nat, Keep (x.op = (on : Int)) := ⟨x.op.toNat, ⟨by have := (HHat.out q55).1; omega⟩⟩
          have hwo : IntKind.u64.wrap x.op = (on : Int) := by rw [hon.out, IntKind.wrap_u64]; have := (HHat.out q55).2; have := hon.out; omega
          have Hon : Keep (x.op.toNat = on) := ⟨by rw [hon.out, Int.toNat_natCast]⟩
          refine WL.val (by kernel_rfl) (.int .u64 (on : Int)) (by go_simp) ?_
          simp only [Act.put, List.setIfInBounds_toArray, List.set_cons_zero, List.set_cons_succ]
          refine WL.callF (by kernel_rfl) 41 _ _ rfl Try.in41 #[u_3, .int .u64 (on : Int)] (by simp [Act.eval]) ?_
          refine (rnum_any u_3 (L1 ++ [x.kind] ++ bform (lst x.key)) on w_3 H3.out.own (by have := (HHat.out q55).2; have := hon.out; omega) (by have := Hbd.out; unfold tl at this; rw [if_neg (show ¬ txt x.kind = true by rw [q38]; decide), if_neg h11_2, if_pos q55] at this; rw [Hon.out] at this; simp only [List.length_append, List.length_cons, List.length_nil] at this ⊢; omega)).mono ?_
          rintro e w_4 hp
          obtain ⟨u_4, rfl, hq1, hq2, hq3⟩ := hp
          refine ⟨_, rfl, ?_⟩
          have H4 := Keep.mk (H3.out.step hq1 hq2 hq3)
          have X4 := Keep.mk (own_keeps H3.out.own X3.out (by decide) hq3)
          clear hq1 hq2 hq3
          clear c3_0 c3_1 c3_2 c3_3 c3_36
          have c4_0 := X4.out.c 0 (opA_0 x)
          have c4_1 := X4.out.c 1 (opA_1 x)
          have c4_2 := X4.out.c 2 (opA_2 x)
          have c4_3 := X4.out.c 3 (opA_3 x)
          have c4_36 := X4.out.c 36 (opA_36 x)
          simp only [Act.put, List.setIfInBounds_toArray, List.set_cons_zero, List.set_cons_succ]
          refine WL.val (by kernel_rfl) (u_4) (by go_simp) ?_
          simp only [Act.put, List.setIfInBounds_toArray, List.set_cons_zero, List.set_cons_succ]
          refine WL.nil ?_
          refine hK32 _ _ ?_
          refine wp_seq_k fun K33 hK33 => ?_
          refine wp_region_list (WL.out ?_)
          refine WL.val (by kernel_rfl) (.pointer (some ⟨gx, 4, none⟩)) (by go_simp) ?_
          simp only [Act.put, List.setIfInBounds_toArray, List.set_cons_zero, List.set_cons_succ]
          refine WL.val (by kernel_rfl) (.pointer (some ⟨gx, 36, none⟩)) (by go_simp) ?_
          simp only [Act.put, List.setIfInBounds_toArray, List.set_cons_zero, List.set_cons_succ]
          refine WL.val (by kernel_rfl) (.int .i64 x.op) (by go_simp) ?_
          simp only [Act.put, List.setIfInBounds_toArray, List.set_cons_zero, List.set_cons_succ]
          by_cases h16_3 : x.op = 0
          · skip
            refine WL.val (by kernel_rfl) (.bool false) (by go_simp) ?_
            simp only [Act.put, List.setIfInBounds_toArray, List.set_cons_zero, List.set_cons_succ]
            refine WL.nil ?_
            refine hK33 _ _ ?_
            refine wp_cond_false rfl ?_
            refine wp_skip ?_
            refine hK7 _ _ ?_
            refine wp_region_list (WL.out ?_)
            refine WL.val (by kernel_rfl) (.int .i64 (t : Int)) (by go_simp) ?_
            simp only [Act.put, List.setIfInBounds_toArray, List.set_cons_zero, List.set_cons_succ]
            refine WL.val (by kernel_rfl) (.int .i64 ((t : Int) + 1)) (by go_simp) ?_
            simp only [Act.put, List.setIfInBounds_toArray, List.set_cons_zero, List.set_cons_succ]
            refine WL.val (by kernel_rfl) (.int .i64 ((t : Int) + 1)) (by go_simp) ?_
            simp only [Act.put, List.setIfInBounds_toArray, List.set_cons_zero, List.set_cons_succ]
            refine WL.nil ?_
            have hE : L0 ++ numL l.length ++ (l.take (t + 1)).flatMap oneF = L1 ++ [x.kind] ++ bform (lst x.key) ++ numL on := by
              rw [HFull.out]; unfold tl
              rw [if_neg (show ¬ txt x.kind = true by rw [q38]; decide), if_neg h11_2, if_pos q55, if_pos h16_3]
              rw [Hon.out]
              simp
            refine ⟨⟨t + 1, u_4, .pointer (some ⟨gx, 0, none⟩), .bool false, .bool true, .int .i64 (t : Int), .slice va l.length vc, .int .i64 (l.length : Int), .bool true, .int .i64 (t : Int), .int .i64 ((t : Int) + 1), .slice va l.length vc, .int .i64 (t : Int), .pointer (some ⟨gL, ofL + t * 37, none⟩), .agg (opA x), u0, .pointer (some ⟨gx, 0, none⟩), .int .i64 x.kind, .int .u8 x.kind, .slice (some ⟨w_0.heap.size, 0, none⟩) 1 1, u_1, u_1, .pointer (some ⟨gx, 1, none⟩), .string x.key, vb2, u_3, .pointer (some ⟨gx, 0, none⟩), .int .i64 x.kind, .bool false, .bool false, u39, u40, u41, u42, u43, .pointer (some ⟨gx, 0, none⟩), .int .i64 x.kind, .bool false, u47, u48, u49, u50, u51, .pointer (some ⟨gx, 0, none⟩), .int .i64 x.kind, .bool true, .bool true, u_3, .pointer (some ⟨gx, 4, none⟩), .pointer (some ⟨gx, 36, none⟩), .int .i64 x.op, .int .u64 (on : Int), u_4, .pointer (some ⟨gx, 4, none⟩), .pointer (some ⟨gx, 36, none⟩), .int .i64 x.op, .bool false, u66, u67, u68, u69, u70, rfl, by omega, by rw [hE]; exact H4.out⟩, ?_⟩
            simp only [intOf]; show l.length - ((t : Int) + 1).toNat < l.length - ((t : Int)).toNat; omega
          · skip
            refine WL.val (by kernel_rfl) (.bool true) (by go_simp) ?_
            simp only [Act.put, List.setIfInBounds_toArray, List.set_cons_zero, List.set_cons_succ]
            refine WL.nil ?_
            refine hK33 _ _ ?_
            refine wp_cond_true rfl ?_
            refine wp_region_list (WL.out ?_)
            refine WL.val (by kernel_rfl) (u_4) (by go_simp) ?_
            simp only [Act.put, List.setIfInBounds_toArray, List.set_cons_zero, List.set_cons_succ]
            refine WL.val (by kernel_rfl) (.pointer (some ⟨gx, 4, none⟩)) (by go_simp) ?_
            simp only [Act.put, List.setIfInBounds_toArray, List.set_cons_zero, List.set_cons_succ]
            refine WL.val (by kernel_rfl) (.pointer (some ⟨gx, 4, none⟩)) (by go_simp) ?_
            simp only [Act.put, List.setIfInBounds_toArray, List.set_cons_zero, List.set_cons_succ]
            refine WL.midA (by kernel_rfl) 55 (.tmp 68) rfl gx 4 rfl (bytesA 32 (hof x.node)) _ (opA_nodes X4.out) Try.underlying55 rfl (Try.size55B _) ?_
            simp only [Act.put, List.setIfInBounds_toArray, List.set_cons_zero, List.set_cons_succ]
            refine WL.callF (by kernel_rfl) 46 _ _ rfl Try.in46 #[u_4, .agg (bytesA 32 (hof x.node))] (by simp [Act.eval]) ?_
            refine (rhash_any u_4 (L1 ++ [x.kind] ++ bform (lst x.key) ++ numL on) (hof x.node) w_4 H4.out.own (by have := Hbd.out; unfold tl at this; rw [if_neg (show ¬ txt x.kind = true by rw [q38]; decide), if_neg h11_2, if_pos q55, if_neg h16_3] at this; rw [Hon.out] at this; simp only [hl_len, List.length_append, List.length_cons, List.length_nil] at this ⊢; omega)).mono ?_
            rintro e w_5 hp
            obtain ⟨u_5, rfl, hq1, hq2, hq3⟩ := hp
            refine ⟨_, rfl, ?_⟩
            have H5 := Keep.mk (H4.out.step hq1 hq2 hq3)
            have X5 := Keep.mk (own_keeps H4.out.own X4.out (by decide) hq3)
            clear hq1 hq2 hq3
            clear c4_0 c4_1 c4_2 c4_3 c4_36
            have c5_0 := X5.out.c 0 (opA_0 x)
            have c5_1 := X5.out.c 1 (opA_1 x)
            have c5_2 := X5.out.c 2 (opA_2 x)
            have c5_3 := X5.out.c 3 (opA_3 x)
            have c5_36 := X5.out.c 36 (opA_36 x)
            simp only [Act.put, List.setIfInBounds_toArray, List.set_cons_zero, List.set_cons_succ]
            refine WL.val (by kernel_rfl) (u_5) (by go_simp) ?_
            simp only [Act.put, List.setIfInBounds_toArray, List.set_cons_zero, List.set_cons_succ]
            refine WL.nil ?_
            refine hK7 _ _ ?_
            refine wp_region_list (WL.out ?_)
            refine WL.val (by kernel_rfl) (.int .i64 (t : Int)) (by go_simp) ?_
            simp only [Act.put, List.setIfInBounds_toArray, List.set_cons_zero, List.set_cons_succ]
            refine WL.val (by kernel_rfl) (.int .i64 ((t : Int) + 1)) (by go_simp) ?_
            simp only [Act.put, List.setIfInBounds_toArray, List.set_cons_zero, List.set_cons_succ]
            refine WL.val (by kernel_rfl) (.int .i64 ((t : Int) + 1)) (by go_simp) ?_
            simp only [Act.put, List.setIfInBounds_toArray, List.set_cons_zero, List.set_cons_succ]
            refine WL.nil ?_
            have hE : L0 ++ numL l.length ++ (l.take (t + 1)).flatMap oneF = L1 ++ [x.kind] ++ bform (lst x.key) ++ numL on ++ hl 32 (hof x.node) := by
              rw [HFull.out]; unfold tl
              rw [if_neg (show ¬ txt x.kind = true by rw [q38]; decide), if_neg h11_2, if_pos q55, if_neg h16_3]
              rw [Hon.out]
              simp
            refine ⟨⟨t + 1, u_5, .pointer (some ⟨gx, 0, none⟩), .bool false, .bool true, .int .i64 (t : Int), .slice va l.length vc, .int .i64 (l.length : Int), .bool true, .int .i64 (t : Int), .int .i64 ((t : Int) + 1), .slice va l.length vc, .int .i64 (t : Int), .pointer (some ⟨gL, ofL + t * 37, none⟩), .agg (opA x), u0, .pointer (some ⟨gx, 0, none⟩), .int .i64 x.kind, .int .u8 x.kind, .slice (some ⟨w_0.heap.size, 0, none⟩) 1 1, u_1, u_1, .pointer (some ⟨gx, 1, none⟩), .string x.key, vb2, u_3, .pointer (some ⟨gx, 0, none⟩), .int .i64 x.kind, .bool false, .bool false, u39, u40, u41, u42, u43, .pointer (some ⟨gx, 0, none⟩), .int .i64 x.kind, .bool false, u47, u48, u49, u50, u51, .pointer (some ⟨gx, 0, none⟩), .int .i64 x.kind, .bool true, .bool true, u_3, .pointer (some ⟨gx, 4, none⟩), .pointer (some ⟨gx, 36, none⟩), .int .i64 x.op, .int .u64 (on : Int), u_4, .pointer (some ⟨gx, 4, none⟩), .pointer (some ⟨gx, 36, none⟩), .int .i64 x.op, .bool true, u_4, .pointer (some ⟨gx, 4, none⟩), .pointer (some ⟨gx, 4, none⟩), .agg (bytesA 32 (hof x.node)), u_5, rfl, by omega, by rw [hE]; exact H5.out⟩, ?_⟩
            simp only [intOf]; show l.length - ((t : Int) + 1).toNat < l.length - ((t : Int)).toNat; omega
        · have q55 := h14_0
          rw [h14_0]
          refine WL.val (by kernel_rfl) (.bool false) (by go_simp) ?_
          simp only [Act.put, List.setIfInBounds_toArray, List.set_cons_zero, List.set_cons_succ]
          refine WL.nil ?_
          refine hK31 _ _ ?_
          refine wp_cond_false rfl ?_
          refine wp_skip ?_
          refine hK7 _ _ ?_
          refine wp_region_list (WL.out ?_)
          refine WL.val (by kernel_rfl) (.int .i64 (t : Int)) (by go_simp) ?_
          simp only [Act.put, List.setIfInBounds_toArray, List.set_cons_zero, List.set_cons_succ]
          refine WL.val (by kernel_rfl) (.int .i64 ((t : Int) + 1)) (by go_simp) ?_
          simp only [Act.put, List.setIfInBounds_toArray, List.set_cons_zero, List.set_cons_succ]
          refine WL.val (by kernel_rfl) (.int .i64 ((t : Int) + 1)) (by go_simp) ?_
          simp only [Act.put, List.setIfInBounds_toArray, List.set_cons_zero, List.set_cons_succ]
          refine WL.nil ?_
          have hE : L0 ++ numL l.length ++ (l.take (t + 1)).flatMap oneF = L1 ++ [x.kind] ++ bform (lst x.key) := by
            rw [HFull.out]; unfold tl
            rw [if_neg (show ¬ txt x.kind = true by rw [q38]; decide), if_neg h11_2, if_neg (show ¬ hat x.kind = true by rw [q55]; decide)]
            simp
          refine ⟨⟨t + 1, u_3, .pointer (some ⟨gx, 0, none⟩), .bool false, .bool false, .int .i64 (t : Int), .slice va l.length vc, .int .i64 (l.length : Int), .bool true, .int .i64 (t : Int), .int .i64 ((t : Int) + 1), .slice va l.length vc, .int .i64 (t : Int), .pointer (some ⟨gL, ofL + t * 37, none⟩), .agg (opA x), u0, .pointer (some ⟨gx, 0, none⟩), .int .i64 x.kind, .int .u8 x.kind, .slice (some ⟨w_0.heap.size, 0, none⟩) 1 1, u_1, u_1, .pointer (some ⟨gx, 1, none⟩), .string x.key, vb2, u_3, .pointer (some ⟨gx, 0, none⟩), .int .i64 x.kind, .bool false, .bool false, u39, u40, u41, u42, u43, .pointer (some ⟨gx, 0, none⟩), .int .i64 x.kind, .bool false, u47, u48, u49, u50, u51, .pointer (some ⟨gx, 0, none⟩), .int .i64 x.kind, .bool false, .bool false, u56, u57, u58, u59, u60, u61, u62, u63, u64, u65, u66, u67, u68, u69, u70, rfl, by omega, by rw [hE]; exact H3.out⟩, ?_⟩
          simp only [intOf]; show l.length - ((t : Int) + 1).toNat < l.length - ((t : Int)).toNat; omega
  · have hte : Keep (t = l.length) := ⟨by omega⟩
    have htl' : ¬ (t : Int) < (l.length : Int) := by omega
    refine wp_seq_k fun K34 hK34 => ?_
    refine wp_seq_k fun K35 hK35 => ?_
    refine wp_region_list (WL.out ?_)
    refine WL.val (by kernel_rfl) (.int .i64 (t : Int)) (by go_simp) ?_
    simp only [Act.put, List.setIfInBounds_toArray, List.set_cons_zero, List.set_cons_succ]
    refine WL.val (by kernel_rfl) (.slice va l.length vc) (by go_simp) ?_
    simp only [Act.put, List.setIfInBounds_toArray, List.set_cons_zero, List.set_cons_succ]
    refine WL.val (by kernel_rfl) (.int .i64 (l.length : Int)) (by go_simp) ?_
    simp only [Act.put, List.setIfInBounds_toArray, List.set_cons_zero, List.set_cons_succ]
    refine WL.val (by kernel_rfl) (.bool false) (by go_simp) ?_
    simp only [Act.put, List.setIfInBounds_toArray, List.set_cons_zero, List.set_cons_succ]
    refine WL.nil ?_
    refine hK35 _ _ ?_
    refine wp_cond_false rfl ?_
    refine wp_exit ?_
    refine hK3 _ _ ?_
    refine wp_seq_k fun K36 hK36 => ?_
    refine wp_region_list (WL.out ?_)
    refine WL.val (by kernel_rfl) (u0) (by go_simp) ?_
    simp only [Act.put, List.setIfInBounds_toArray, List.set_cons_zero, List.set_cons_succ]
    refine WL.val (by kernel_rfl) (u0) (by go_simp) ?_
    simp only [Act.put, List.setIfInBounds_toArray, List.set_cons_zero, List.set_cons_succ]
    refine WL.nil ?_
    refine hK36 _ _ ?_
    refine wp_ret ?_
    go_ret
    rw [hte.out, List.take_length, List.append_assoc] at hS
    exact ⟨_, rfl, hS.own, hS.mv, hS.gr⟩

theorem wpAnyH_weaken {P : Program} {md : Region.Mode} {ops : Array Oper} {Q : Exit → Act → World → Prop} {S S' : World → Prop} (h : ∀ w, S' w → S w) : ∀ (fuel : Nat) (listed : Array Bool) (a : Act) (w : World), wpAnyH P md ops Q S' fuel listed a w → wpAnyH P md ops Q S fuel listed a w
  | 0, _, _, _, h1 => h1
  | fuel + 1, _, _, _, h1 => ⟨h1.1, fun i hi => wpOp_mono (fun a' w' h2 => ⟨h w' h2.1, wpAnyH_weaken h fuel _ a' w' h2.2⟩) (h1.2 i hi)⟩
theorem bform_small (s : ByteArray) (h : s.size ≤ 65536) : (bform (lst s)).length ≤ 65546 := by
  unfold bform
  rw [List.length_append, lst_len]
  have := numL_len s.size
  omega
theorem one_small (x : OpV) (h1 : x.key.size ≤ 65536) (h2 : x.text.size ≤ 65536) (h : hasI x.kind ≠ []) : (oneF x).length ≤ 131200 := by
  rw [oneF_eq x h]
  unfold tl
  have a1 := bform_small x.key h1
  have a2 := bform_small x.text h2
  have a3 := numL_len (zig x.n)
  have a4 := numL_len x.op.toNat
  have a5 := hl_len 32 (hof x.node)
  simp only [List.length_append, List.length_cons, List.length_nil]
  split <;> split <;> split <;> (try split) <;> simp only [List.length_append, List.length_nil] at * <;> omega
theorem fm_small (l : List OpV) (h : ∀ x ∈ l, (oneF x).length ≤ 131200) : (l.flatMap oneF).length ≤ l.length * 131200 := by
  induction l with
  | nil => simp
  | cons x l ih =>
    rw [List.flatMap_cons, List.length_append, List.length_cons]
    have := h x (by simp)
    have := ih (fun y hy => h y (by simp [hy]))
    omega
theorem form_small (l : List OpV) (h : (chk l).1 = 0) : (formL l).length ≤ 134400000 := by
  obtain ⟨h1, h2⟩ := chk_ok h
  have h3 := fm_small l (fun x hx => by
    obtain ⟨i, hi⟩ := List.getElem?_of_mem hx
    have := wrongV_ok (h2 i x hi)
    exact one_small x this.2.1 this.2.2.1 this.1)
  unfold formL
  rw [List.length_append]
  have := numL_len l.length
  omega
end Go.Proofs.Ytkjjlfpghhefcab
