import Derived.Test.YtbkboebinhafhaaTab
namespace Go.Proofs.Ytbkboebinhafhaa
open Go.RowKit

theorem wpList_mkmap {ops : Array Oper} {rest : List Oper} {o : Oper} {a : Act} {w : World} {Q : Exit → Act → World → Prop} (hg : o.guard = none) (ho : o.op = .makeMap 69 none)
    (h : wpList Try.prog ops Q rest (a.put o.dst (.map (some w.heap.size))) (w.alloc (.map #[] 0))) : wpList Try.prog ops Q (o :: rest) a w := by
  refine wpList_plain hg fun K hK => ?_
  unfold Oper.wp execOp
  have := Try.newmap w
  simp only [ho, Option.map_none, Sem.run_bind, this, Result.andThen_ok]
  exact hK _ _ h
theorem wpList_bs {P : Program} {ops : Array Oper} {rest : List Oper} {o : Oper} {a : Act} {w : World} {Q : Exit → Act → World → Prop} (hg : o.guard = none) (t : TypeId) (n : Nat) (parts : Array (Nat × Operand)) (ho : o.op = .buildSlice t n parts)
    (vs : Array (Nat × Value)) (hv : (parts.map fun (i, x) => (i, a.eval x)) = vs) (v : Value) (w' : World) (hrun : (Instr.buildSlice t n vs).run P w = .ok v w')
    (h : wpList P ops Q rest (a.put o.dst v) w') : wpList P ops Q (o :: rest) a w := by
  refine wpList_plain hg fun K hK => ?_
  unfold Oper.wp execOp
  simp only [ho, hv, Sem.run_bind, hrun, Result.andThen_ok]
  exact hK _ _ h
theorem not_in (V : Int → Value) (ks : List Int) (k : Int) (h : k ∉ ks) : ∀ p ∈ ks.map (fun k => (k, V k)), p.1 ≠ k := by
  intro p hp e
  obtain ⟨j, hj, rfl⟩ := List.mem_map.1 hp
  exact h (e ▸ hj)
theorem four_new (w : World) : (∀ i, i < 4 → Blk ((((w.alloc (.cells noF 82)).alloc (.cells noF 82)).alloc (.cells noF 82)).alloc (.cells noF 82)) (w.heap.size + i) 82 noF) ∧ ((((w.alloc (.cells noF 82)).alloc (.cells noF 82)).alloc (.cells noF 82)).alloc (.cells noF 82)).heap.size = w.heap.size + 4 ∧ Below w.heap.size w ((((w.alloc (.cells noF 82)).alloc (.cells noF 82)).alloc (.cells noF 82)).alloc (.cells noF 82)) := by
  refine ⟨fun i hi => ?_, by simp, (((below_new w _).alloc (by simp) _).alloc (by simp; omega) _).alloc (by simp; omega) _⟩
  have h0 := (((Blk.new w 82 noF).alloc (.cells noF 82)).alloc (.cells noF 82)).alloc (.cells noF 82)
  have h1 := ((Blk.new (w.alloc (.cells noF 82)) 82 noF).alloc (.cells noF 82)).alloc (.cells noF 82)
  have h2 := (Blk.new ((w.alloc (.cells noF 82)).alloc (.cells noF 82)) 82 noF).alloc (.cells noF 82)
  have h3 := Blk.new (((w.alloc (.cells noF 82)).alloc (.cells noF 82)).alloc (.cells noF 82)) 82 noF
  simp only [World.size_alloc] at h1 h2 h3
  match i, hi with
  | 0, _ => exact h0
  | 1, _ => exact h1
  | 2, _ => exact h2
  | 3, _ => exact h3
set_option maxRecDepth 8000 in
set_option maxHeartbeats 2000000 in
theorem tab_any (w : World) : Calls Try.prog 34 #[] w fun e w' => ∃ m, e = .returned (.map (some m)) ∧ TabAt w' m ∧ w.heap.size ≤ m ∧ Below w.heap.size w w' := by
  go_enter Try.func34, Try.ntmps34
  go_wp2_with fail
  refine (fld0_any w).mono ?_
  rintro e w1 ⟨rfl, h1⟩
  have H1 := Keep.mk h1
  clear h1
  go_wp2_with fail
  refine (fld1_any w1).mono ?_
  rintro e w2 ⟨rfl, h2⟩
  have H2 := Keep.mk (H1.out.trans (h2.mono H1.out.size))
  clear h2 H1
  go_wp2_with fail
  refine (fld2_any w2).mono ?_
  rintro e w3 ⟨rfl, h3⟩
  have H3 := Keep.mk (H2.out.trans (h3.mono H2.out.size))
  clear h3 H2
  go_wp2_with fail
  refine (fld3_any w3).mono ?_
  rintro e w4 ⟨rfl, h4⟩
  have H4 := Keep.mk (H3.out.trans (h4.mono H3.out.size))
  clear h4 H3
  clear w1 w2 w3
  go_wp2_with (first | (refine wpList_new rfl 82 rfl _ Try.new82 ?_; refine wpList_new rfl 82 rfl _ Try.new82 ?_; refine wpList_new rfl 82 rfl _ Try.new82 ?_; refine wpList_new rfl 82 rfl _ Try.new82 ?_; refine Hid.out ?_))
  refine hid_in ?_
  have HF := Keep.mk (four_new w4)
  have HLo := Keep.mk H4.out.size
  generalize (((w4.alloc (.cells noF 82)).alloc (.cells noF 82)).alloc (.cells noF 82)).alloc (.cells noF 82) = wA at *
  refine wpList_store_row rfl 82 (.tmp 1) (.tmp 5) rfl w4.heap.size (fldA 0) rfl rfl 82 noF (HF.out.1 0 (by omega)) (Try.size82B 0) (noF_sizes 0).symm (fldA_one 0) ?_
  refine wpList_store_row rfl 82 (.tmp 2) (.tmp 6) rfl (w4.heap.size + 1) (fldA 1) rfl rfl 82 noF ((HF.out.1 1 (by omega)).setRow_ne (by omega) _) (Try.size82B 1) (noF_sizes 1).symm (fldA_one 1) ?_
  refine wpList_store_row rfl 82 (.tmp 3) (.tmp 7) rfl (w4.heap.size + 2) (fldA 2) rfl rfl 82 noF (((HF.out.1 2 (by omega)).setRow_ne (by omega) _).setRow_ne (by omega) _) (Try.size82B 2) (noF_sizes 2).symm (fldA_one 2) ?_
  refine wpList_store_row rfl 82 (.tmp 4) (.tmp 8) rfl (w4.heap.size + 3) (fldA 3) rfl rfl 82 noF ((((HF.out.1 3 (by omega)).setRow_ne (by omega) _).setRow_ne (by omega) _).setRow_ne (by omega) _) (Try.size82B 3) (noF_sizes 3).symm (fldA_one 3) ?_
  have HG : Keep (∀ i, i < 4 → Blk ((((wA.setRow w4.heap.size (fldA 0)).setRow (w4.heap.size + 1) (fldA 1)).setRow (w4.heap.size + 2) (fldA 2)).setRow (w4.heap.size + 3) (fldA 3)) (w4.heap.size + i) 82 (fldA i)) := ⟨fun i hi => by
    match i, hi with
    | 0, _ => exact ((((HF.out.1 0 (by omega)).setRow _).setRow_ne (by omega) _).setRow_ne (by omega) _).setRow_ne (by omega) _
    | 1, _ => exact ((((HF.out.1 1 (by omega)).setRow_ne (by omega) _).setRow _).setRow_ne (by omega) _).setRow_ne (by omega) _
    | 2, _ => exact ((((HF.out.1 2 (by omega)).setRow_ne (by omega) _).setRow_ne (by omega) _).setRow _).setRow_ne (by omega) _
    | 3, _ => exact ((((HF.out.1 3 (by omega)).setRow_ne (by omega) _).setRow_ne (by omega) _).setRow_ne (by omega) _).setRow _⟩
  have HS : Keep (((((wA.setRow w4.heap.size (fldA 0)).setRow (w4.heap.size + 1) (fldA 1)).setRow (w4.heap.size + 2) (fldA 2)).setRow (w4.heap.size + 3) (fldA 3)).heap.size = w4.heap.size + 4) := ⟨by simp [HF.out.2.1]⟩
  have HB : Keep (Below w.heap.size w ((((wA.setRow w4.heap.size (fldA 0)).setRow (w4.heap.size + 1) (fldA 1)).setRow (w4.heap.size + 2) (fldA 2)).setRow (w4.heap.size + 3) (fldA 3))) :=
    ⟨below_setRow (below_setRow (below_setRow (below_setRow (H4.out.trans (HF.out.2.2.mono HLo.out)) HLo.out _) (by have := HLo.out; omega) _) (by have := HLo.out; omega) _) (by have := HLo.out; omega) _⟩
  generalize (((wA.setRow w4.heap.size (fldA 0)).setRow (w4.heap.size + 1) (fldA 1)).setRow (w4.heap.size + 2) (fldA 2)).setRow (w4.heap.size + 3) (fldA 3) = w5 at *
  obtain ⟨b, hb⟩ : ∃ b, b = w4.heap.size := ⟨_, rfl⟩
  have HT := Keep.mk (TS.start b (by rw [hb]; exact HS.out.symm) (by rw [hb]; exact HG.out) (by rw [hb]; exact HLo.out) HB.out)
  have Hsz : Keep (w5.heap.size = b + 4) := ⟨by rw [hb]; exact HS.out⟩
  rw [← hb]
  clear HG HB HF H4 HLo HS hb wA w4
  go_wp2_with (first | (refine wpList_mkmap rfl rfl ?_; refine Hid.out ?_))
  refine hid_in ?_
  rw [Hsz.out]
  generalize w5.alloc (.map #[] 0) = w6 at *
  clear Hsz w5
  refine wpList_load_row rfl 82 (.tmp 1) rfl b rfl 82 (fldA 0) (0, 0) _ (HT.out.fld 0 (by omega)) Try.underlying82 rfl (Try.size82B 0) ?_
  refine wpList_load_row rfl 82 (.tmp 2) rfl (b + 1) rfl 82 (fldA 1) (0, 0) _ (HT.out.fld 1 (by omega)) Try.underlying82 rfl (Try.size82B 1) ?_
  simp only [Act.put, List.setIfInBounds_toArray, List.set_cons_zero, List.set_cons_succ]
  refine wpList_bs rfl 72 2 _ rfl #[(0, .agg (fldA 0)), (1, .agg (fldA 1))] (by simp [Act.eval]) _ _ (bs1 _) ?_
  refine wpList_ins rfl (.tmp 9) _ (.tmp 12) rfl (b + 4) _ 1 _ rfl rfl rfl (HT.out.alloc (.cells (flatF (hasI 1)) 82)).map (not_in _ _ _ (by decide)) ?_
  intro w7 hm hg hs
  have HT1 := Keep.mk ((HT.out.alloc (.cells (flatF (hasI 1)) 82)).put 1 _ (by decide) (fields_row w6 1 2 rfl) hm hg)
  clear hm hg hs HT
  rename Keep (TS _ _ _ _ w7) => HT
  refine wpList_load_row rfl 82 (.tmp 1) rfl b rfl 82 (fldA 0) (0, 0) _ (HT.out.fld 0 (by omega)) Try.underlying82 rfl (Try.size82B 0) ?_
  simp only [Act.put, List.setIfInBounds_toArray, List.set_cons_zero, List.set_cons_succ]
  refine wpList_bs rfl 72 1 _ rfl #[(0, .agg (fldA 0))] (by simp [Act.eval]) _ _ (bs2 _) ?_
  refine wpList_ins rfl (.tmp 9) _ (.tmp 14) rfl (b + 4) _ 2 _ rfl rfl rfl (HT.out.alloc (.cells (flatF (hasI 2)) 82)).map (not_in _ _ _ (by decide)) ?_
  intro w8 hm hg hs
  have HT2 := Keep.mk ((HT.out.alloc (.cells (flatF (hasI 2)) 82)).put 2 _ (by decide) (fields_row w7 2 1 rfl) hm hg)
  clear hm hg hs HT
  rename Keep (TS _ _ _ _ w8) => HT
  refine wpList_load_row rfl 82 (.tmp 1) rfl b rfl 82 (fldA 0) (0, 0) _ (HT.out.fld 0 (by omega)) Try.underlying82 rfl (Try.size82B 0) ?_
  refine wpList_load_row rfl 82 (.tmp 2) rfl (b + 1) rfl 82 (fldA 1) (0, 0) _ (HT.out.fld 1 (by omega)) Try.underlying82 rfl (Try.size82B 1) ?_
  simp only [Act.put, List.setIfInBounds_toArray, List.set_cons_zero, List.set_cons_succ]
  refine wpList_bs rfl 72 2 _ rfl #[(0, .agg (fldA 0)), (1, .agg (fldA 1))] (by simp [Act.eval]) _ _ (bs3 _) ?_
  refine wpList_ins rfl (.tmp 9) _ (.tmp 17) rfl (b + 4) _ 3 _ rfl rfl rfl (HT.out.alloc (.cells (flatF (hasI 3)) 82)).map (not_in _ _ _ (by decide)) ?_
  intro w9 hm hg hs
  have HT3 := Keep.mk ((HT.out.alloc (.cells (flatF (hasI 3)) 82)).put 3 _ (by decide) (fields_row w8 3 2 rfl) hm hg)
  clear hm hg hs HT
  rename Keep (TS _ _ _ _ w9) => HT
  refine wpList_load_row rfl 82 (.tmp 1) rfl b rfl 82 (fldA 0) (0, 0) _ (HT.out.fld 0 (by omega)) Try.underlying82 rfl (Try.size82B 0) ?_
  refine wpList_load_row rfl 82 (.tmp 2) rfl (b + 1) rfl 82 (fldA 1) (0, 0) _ (HT.out.fld 1 (by omega)) Try.underlying82 rfl (Try.size82B 1) ?_
  simp only [Act.put, List.setIfInBounds_toArray, List.set_cons_zero, List.set_cons_succ]
  refine wpList_bs rfl 72 2 _ rfl #[(0, .agg (fldA 0)), (1, .agg (fldA 1))] (by simp [Act.eval]) _ _ (bs4 _) ?_
  refine wpList_ins rfl (.tmp 9) _ (.tmp 20) rfl (b + 4) _ 4 _ rfl rfl rfl (HT.out.alloc (.cells (flatF (hasI 4)) 82)).map (not_in _ _ _ (by decide)) ?_
  intro w10 hm hg hs
  have HT4 := Keep.mk ((HT.out.alloc (.cells (flatF (hasI 4)) 82)).put 4 _ (by decide) (fields_row w9 4 2 rfl) hm hg)
  clear hm hg hs HT
  rename Keep (TS _ _ _ _ w10) => HT
  refine wpList_load_row rfl 82 (.tmp 1) rfl b rfl 82 (fldA 0) (0, 0) _ (HT.out.fld 0 (by omega)) Try.underlying82 rfl (Try.size82B 0) ?_
  simp only [Act.put, List.setIfInBounds_toArray, List.set_cons_zero, List.set_cons_succ]
  refine wpList_bs rfl 72 1 _ rfl #[(0, .agg (fldA 0))] (by simp [Act.eval]) _ _ (bs5 _) ?_
  refine wpList_ins rfl (.tmp 9) _ (.tmp 22) rfl (b + 4) _ 5 _ rfl rfl rfl (HT.out.alloc (.cells (flatF (hasI 5)) 82)).map (not_in _ _ _ (by decide)) ?_
  intro w11 hm hg hs
  have HT5 := Keep.mk ((HT.out.alloc (.cells (flatF (hasI 5)) 82)).put 5 _ (by decide) (fields_row w10 5 1 rfl) hm hg)
  clear hm hg hs HT
  rename Keep (TS _ _ _ _ w11) => HT
  refine wpList_load_row rfl 82 (.tmp 1) rfl b rfl 82 (fldA 0) (0, 0) _ (HT.out.fld 0 (by omega)) Try.underlying82 rfl (Try.size82B 0) ?_
  refine wpList_load_row rfl 82 (.tmp 3) rfl (b + 2) rfl 82 (fldA 2) (0, 0) _ (HT.out.fld 2 (by omega)) Try.underlying82 rfl (Try.size82B 2) ?_
  simp only [Act.put, List.setIfInBounds_toArray, List.set_cons_zero, List.set_cons_succ]
  refine wpList_bs rfl 72 2 _ rfl #[(0, .agg (fldA 0)), (1, .agg (fldA 2))] (by simp [Act.eval]) _ _ (bs6 _) ?_
  refine wpList_ins rfl (.tmp 9) _ (.tmp 25) rfl (b + 4) _ 6 _ rfl rfl rfl (HT.out.alloc (.cells (flatF (hasI 6)) 82)).map (not_in _ _ _ (by decide)) ?_
  intro w12 hm hg hs
  have HT6 := Keep.mk ((HT.out.alloc (.cells (flatF (hasI 6)) 82)).put 6 _ (by decide) (fields_row w11 6 2 rfl) hm hg)
  clear hm hg hs HT
  rename Keep (TS _ _ _ _ w12) => HT
  refine wpList_load_row rfl 82 (.tmp 1) rfl b rfl 82 (fldA 0) (0, 0) _ (HT.out.fld 0 (by omega)) Try.underlying82 rfl (Try.size82B 0) ?_
  simp only [Act.put, List.setIfInBounds_toArray, List.set_cons_zero, List.set_cons_succ]
  refine wpList_bs rfl 72 1 _ rfl #[(0, .agg (fldA 0))] (by simp [Act.eval]) _ _ (bs7 _) ?_
  refine wpList_ins rfl (.tmp 9) _ (.tmp 27) rfl (b + 4) _ 7 _ rfl rfl rfl (HT.out.alloc (.cells (flatF (hasI 7)) 82)).map (not_in _ _ _ (by decide)) ?_
  intro w13 hm hg hs
  have HT7 := Keep.mk ((HT.out.alloc (.cells (flatF (hasI 7)) 82)).put 7 _ (by decide) (fields_row w12 7 1 rfl) hm hg)
  clear hm hg hs HT
  rename Keep (TS _ _ _ _ w13) => HT
  refine wpList_load_row rfl 82 (.tmp 1) rfl b rfl 82 (fldA 0) (0, 0) _ (HT.out.fld 0 (by omega)) Try.underlying82 rfl (Try.size82B 0) ?_
  refine wpList_load_row rfl 82 (.tmp 2) rfl (b + 1) rfl 82 (fldA 1) (0, 0) _ (HT.out.fld 1 (by omega)) Try.underlying82 rfl (Try.size82B 1) ?_
  refine wpList_load_row rfl 82 (.tmp 4) rfl (b + 3) rfl 82 (fldA 3) (0, 0) _ (HT.out.fld 3 (by omega)) Try.underlying82 rfl (Try.size82B 3) ?_
  simp only [Act.put, List.setIfInBounds_toArray, List.set_cons_zero, List.set_cons_succ]
  refine wpList_bs rfl 72 3 _ rfl #[(0, .agg (fldA 0)), (1, .agg (fldA 1)), (2, .agg (fldA 3))] (by simp [Act.eval]) _ _ (bs8 _) ?_
  refine wpList_ins rfl (.tmp 9) _ (.tmp 31) rfl (b + 4) _ 8 _ rfl rfl rfl (HT.out.alloc (.cells (flatF (hasI 8)) 82)).map (not_in _ _ _ (by decide)) ?_
  intro w14 hm hg hs
  have HT8 := Keep.mk ((HT.out.alloc (.cells (flatF (hasI 8)) 82)).put 8 _ (by decide) (fields_row w13 8 3 rfl) hm hg)
  clear hm hg hs HT
  rename Keep (TS _ _ _ _ w14) => HT
  refine wpList_load_row rfl 82 (.tmp 1) rfl b rfl 82 (fldA 0) (0, 0) _ (HT.out.fld 0 (by omega)) Try.underlying82 rfl (Try.size82B 0) ?_
  refine wpList_load_row rfl 82 (.tmp 4) rfl (b + 3) rfl 82 (fldA 3) (0, 0) _ (HT.out.fld 3 (by omega)) Try.underlying82 rfl (Try.size82B 3) ?_
  simp only [Act.put, List.setIfInBounds_toArray, List.set_cons_zero, List.set_cons_succ]
  refine wpList_bs rfl 72 2 _ rfl #[(0, .agg (fldA 0)), (1, .agg (fldA 3))] (by simp [Act.eval]) _ _ (bs9 _) ?_
  refine wpList_ins rfl (.tmp 9) _ (.tmp 34) rfl (b + 4) _ 9 _ rfl rfl rfl (HT.out.alloc (.cells (flatF (hasI 9)) 82)).map (not_in _ _ _ (by decide)) ?_
  intro w15 hm hg hs
  have HT9 := Keep.mk ((HT.out.alloc (.cells (flatF (hasI 9)) 82)).put 9 _ (by decide) (fields_row w14 9 2 rfl) hm hg)
  clear hm hg hs HT
  rename Keep (TS _ _ _ _ w15) => HT
  go_wp2
  go_ret
  exact ⟨b + 4, rfl, HT.out.fin, by have := HT.out.lo; omega, HT.out.below⟩
end Go.Proofs.Ytbkboebinhafhaa
