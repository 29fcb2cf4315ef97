import Derived.Test.YtbkboebinhafhaaOpN
import Derived.Test.YtbkboebinhafhaaRdC
namespace Go.Proofs.Ytbkboebinhafhaa
open Go.RowKit
set_option linter.unusedSimpArgs false

theorem wpAnyH_weaken {P : Program} {md : Region.Mode} {ops : Array Oper} {Q : Exit → Act → World → Prop} {S S' : World → Prop} (h : ∀ w, S' w → S w) : ∀ (fuel : Nat) (listed : Array Bool) (a : Act) (w : World), wpAnyH P md ops Q S' fuel listed a w → wpAnyH P md ops Q S fuel listed a w
  | 0, _, _, _, h1 => h1
  | fuel + 1, _, _, _, h1 => ⟨h1.1, fun i hi => wpOp_mono (fun a' w' h2 => ⟨h w' h2.1, wpAnyH_weaken h fuel _ a' w' h2.2⟩) (h1.2 i hi)⟩
/-- How long the form of operations that may be is. -/
theorem bform_small (s : ByteArray) (h : s.size ≤ 65536) : (bform (lst s)).length ≤ 65546 := by
  unfold bform
  rw [List.length_append, lst_len]
  have := numL_len s.size
  omega
theorem one_small (x : OpV) (h1 : x.key.size ≤ 65536) (h2 : x.text.size ≤ 65536) (h : hasI x.kind ≠ []) : (oneF x).length ≤ 131200 := by
  rw [oneF_eq x h]
  unfold tl
  have a1 := bform_small x.key h1
  have a2 := bform_small x.text h2
  have a3 := numL_len (zig x.n)
  have a4 := numL_len x.op.toNat
  have a5 := hl_len 32 (hof x.node)
  simp only [List.length_append, List.length_cons, List.length_nil]
  split <;> split <;> split <;> (try split) <;> simp only [List.length_append, List.length_nil] at * <;> omega
theorem fm_small (l : List OpV) (h : ∀ x ∈ l, (oneF x).length ≤ 131200) : (l.flatMap oneF).length ≤ l.length * 131200 := by
  induction l with
  | nil => simp
  | cons x l ih =>
    rw [List.flatMap_cons, List.length_append, List.length_cons]
    have := h x (by simp)
    have := ih (fun y hy => h y (by simp [hy]))
    omega
theorem form_small (l : List OpV) (h : (chk l).1 = 0) : (formL l).length ≤ 134400000 := by
  obtain ⟨h1, h2⟩ := chk_ok h
  have h3 := fm_small l (fun x hx => by
    obtain ⟨i, hi⟩ := List.getElem?_of_mem hx
    have := wrongV_ok (h2 i x hi)
    exact one_small x this.2.1 this.2.2.1 this.1)
  unfold formL
  rw [List.length_append]
  have := numL_len l.length
  omega
theorem wp_appW {Q : Exit → Act → World → Prop} {o : Oper} {a : Act} {w : World} {K : Act → World → Prop} (s x : Operand)
    (ho : o.op = .call { callee := .builtin .append, args := #[s, x], argTypes := #[36, 36] }) (v vx : Value) (l m : List Int)
    (hs : a.eval s = v) (hx : a.eval x = vx) (hown : Own w v l) (hrow : RowAt w vx m) (hb : l.length + m.length ≤ 200000000000000)
    (h : ∀ v' w', AppPost w v (l ++ m) v' w' → K (a.put o.dst v') w') : o.wp Try.prog a w K Q := by
  obtain ⟨v', w', hr, h2⟩ := run_app_row w o.type v vx l m hown hrow hb
  unfold Oper.wp execOp
  simp only [ho, resolve, invoke, builtin, Sem.run_bind, Sem.run_pure, Result.andThen_ok, List.map_toArray, List.map_cons, List.map_nil, hs, hx, hr]
  exact h v' w' h2
theorem conv_drew {v : Value} {l : List Int} {w : World} (h : RowAt w v l) : RowAt w.drew v l := h
theorem wp_bs {P : Program} {o : Oper} {a : Act} {w : World} {K : Act → World → Prop} {Q : Exit → Act → World → Prop} (t : TypeId) (n : Nat) (parts : Array (Nat × Operand)) (ho : o.op = .buildSlice t n parts)
    (vs : Array (Nat × Value)) (hv : (parts.map fun (i, x) => (i, a.eval x)) = vs) (v : Value) (w' : World) (hrun : (Instr.buildSlice t n vs).run P w = .ok v w') (h : K (a.put o.dst v) w') : o.wp P a w K Q := by
  unfold Oper.wp execOp
  simp only [ho, hv, Sem.run_bind, hrun, Result.andThen_ok]
  exact h
set_option maxRecDepth 8000 in
set_option maxHeartbeats 4000000 in
theorem puts_any (va vl : Value) (A : List Int) (l : List OpV) (w : World) (hA : RowAt w va A) (hAl : A.length ≤ 140737488351232) (hl : OpsAt w vl l) (hok : ∀ x ∈ l, OpOk x) (hb : l.length ≤ 4398046511104) (hk : ∀ k, vl.ownBlock = some k → k < w.heap.size) :
    Calls Try.prog 5 #[va, vl] w fun e w' => e = .returned (.bool true) ∧ Below w.heap.size w w' := by
  obtain ⟨ka, kc, rfl⟩ := hl.form
  have HA := Keep.mk hA
  have HAl := Keep.mk hAl
  have HAm : Keep (A.length ≤ 140738000000000) := ⟨by omega⟩
  have HL := Keep.mk hl
  have Hok := Keep.mk hok
  have Hlb := Keep.mk hb
  have HLk := Keep.mk hk
  clear hA hAl hl hok hb hk
  go_enter Try.func5, Try.ntmps5
  refine wp_seq_k fun K1 hK1 => ?_
  refine wp_region_list (WL.out ?_)
  refine WL.val (by kernel_rfl) (.bool false) (by go_simp) ?_
  simp only [Act.put, List.setIfInBounds_toArray, List.set_cons_zero, List.set_cons_succ]
  refine WL.nil ?_
  refine hK1 _ _ ?_
  refine wp_seq_k fun K2 hK2 => ?_
  refine wp_region_list (WL.out ?_)
  refine WL.callF (by kernel_rfl) 16 _ _ rfl Try.in16 #[] (by simp) ?_
  refine (newOut_any w).mono ?_
  rintro e w1 ⟨rfl, hw1⟩
  refine ⟨_, rfl, ?_⟩
  obtain ⟨p, hp⟩ : ∃ p, Keep (p = w.heap.size) := ⟨_, ⟨rfl⟩⟩
  have HO1 : Keep (OutAt w1 p (.slice none 0 0) []) := ⟨by rw [hw1, hp.out]; exact outAt_new w⟩
  have HB1 : Keep (Below w.heap.size w w1) := ⟨by rw [hw1]; exact below_new w _⟩
  rw [← hp.out]
  clear hw1
  simp only [Act.put, List.setIfInBounds_toArray, List.set_cons_zero, List.set_cons_succ]
  refine WL.val (by kernel_rfl) (.pointer (some ⟨p, 0, none⟩)) (by go_simp) ?_
  simp only [Act.put, List.setIfInBounds_toArray, List.set_cons_zero, List.set_cons_succ]
  refine WL.nil ?_
  refine hK2 _ _ ?_
  refine wp_seq_k fun K3 hK3 => ?_
  refine wp_seq_k fun K4 hK4 => ?_
  refine wp_region_list (WL.out ?_)
  refine WL.val (by kernel_rfl) (.pointer (some ⟨p, 0, none⟩)) (by go_simp) ?_
  simp only [Act.put, List.setIfInBounds_toArray, List.set_cons_zero, List.set_cons_succ]
  refine WL.val (by kernel_rfl) (.bool false) (by go_simp) ?_
  simp only [Act.put, List.setIfInBounds_toArray, List.set_cons_zero, List.set_cons_succ]
  refine WL.nil ?_
  refine hK4 _ _ ?_
  refine wp_cond_false rfl ?_
  refine wp_skip ?_
  refine hK3 _ _ ?_
  refine wp_seq_k fun K5 hK5 => ?_
  refine wp_region_list (WL.out ?_)
  refine WL.val (by kernel_rfl) (.pointer (some ⟨p, 0, none⟩)) (by go_simp) ?_
  simp only [Act.put, List.setIfInBounds_toArray, List.set_cons_zero, List.set_cons_succ]
  refine WL.val (by kernel_rfl) (va) (by go_simp) ?_
  simp only [Act.put, List.setIfInBounds_toArray, List.set_cons_zero, List.set_cons_succ]
  refine WL.callF (by kernel_rfl) 17 _ _ rfl Try.in17 #[ptr p, va] (by simp [Act.eval]) ?_
  refine (oraw_any p _ va [] A w1 HO1.out (HA.out.below HB1.out) (by have := HAl.out; simp only [List.nil_append]; omega)).mono ?_
  rintro e w2 hq
  obtain ⟨rfl, v2, h1, h2, h3⟩ := hq
  refine ⟨_, rfl, ?_⟩
  rw [List.nil_append] at h1
  have HO2 := Keep.mk h1
  have HN2 : Keep (∀ k, OF p v2 k → w.heap.size ≤ k) := ⟨fun k hk => by
    rcases hk with rfl | hk
    · exact Nat.le_of_eq hp.out.symm
    · rcases h2 with e | ⟨j, e, hj⟩
      · rw [e] at hk; simp [Value.ownBlock] at hk
      · rw [e] at hk; injection hk with hk; have := HB1.out.size; omega⟩
  have HB2 : Keep (Below w.heap.size w w2) := ⟨⟨h3.os.trans HB1.out.os, h3.tape.trans HB1.out.tape, h3.output.trans HB1.out.output, Nat.le_trans HB1.out.size h3.size, fun j hj => by rw [h3.block j (Nat.lt_of_lt_of_le hj HB1.out.size) (fun ho => ho.elim (fun e => by have := hp.out; omega) (fun e => by simp [Value.ownBlock] at e))]; exact HB1.out.block j hj⟩⟩
  clear h1 h2 h3
  simp only [Act.put, List.setIfInBounds_toArray, List.set_cons_zero, List.set_cons_succ]
  refine WL.nil ?_
  refine hK5 _ _ ?_
  refine wp_seq_k fun K6 hK6 => ?_
  refine wp_region_list (WL.out ?_)
  refine WL.val (by kernel_rfl) (va) (by go_simp) ?_
  simp only [Act.put, List.setIfInBounds_toArray, List.set_cons_zero, List.set_cons_succ]
  refine WL.app (by kernel_rfl) _ (.tmp 16) rfl (.slice none 0 0) va [] A rfl rfl (own_nil w2) (HA.out.below HB2.out) (by have := HAl.out; simp only [List.length_nil]; omega) ?_
  intro v3 w3 hap
  rw [List.nil_append] at hap
  have HW3 := Keep.mk hap.1
  have HB3 : Keep (Below w2.heap.size w2 w3) := ⟨by
    rcases hap.2 with ⟨e, hg⟩ | ⟨e, hb⟩
    · exact hg.to_below (fun k _ ho => by simp [Value.ownBlock] at ho) (Nat.le_refl _)
    · exact hb⟩
  have HN3 : Keep (∀ k, v3.ownBlock = some k → w2.heap.size ≤ k) := ⟨fun k hk => by
    rcases hap.2 with ⟨e, hg⟩ | ⟨e, hb⟩
    · rw [e] at hk; simp [Value.ownBlock] at hk
    · rw [e] at hk; injection hk with hk; omega⟩
  have HQ3 : Keep (∀ k, v3.ownBlock = some k → w.heap.size ≤ k) := ⟨fun k hk => Nat.le_trans HB2.out.size (HN3.out k hk)⟩
  have HO3 := Keep.mk (HO2.out.below HB3.out)
  have HBB3 := Keep.mk (HB2.out.trans (HB3.out.mono HB2.out.size))
  clear hap
  simp only [Act.put, List.setIfInBounds_toArray, List.set_cons_zero, List.set_cons_succ]
  refine WL.val (by kernel_rfl) (v3) (by go_simp) ?_
  simp only [Act.put, List.setIfInBounds_toArray, List.set_cons_zero, List.set_cons_succ]
  refine WL.nil ?_
  refine hK6 _ _ ?_
  refine wp_seq_k fun K7 hK7 => ?_
  refine wp_region_list (WL.out ?_)
  refine WL.val (by kernel_rfl) (.pointer (some ⟨p, 0, none⟩)) (by go_simp) ?_
  simp only [Act.put, List.setIfInBounds_toArray, List.set_cons_zero, List.set_cons_succ]
  refine WL.val (by kernel_rfl) (.slice ka l.length kc) (by go_simp) ?_
  simp only [Act.put, List.setIfInBounds_toArray, List.set_cons_zero, List.set_cons_succ]
  refine WL.callF (by kernel_rfl) 18 _ _ rfl Try.in18 #[ptr p, .slice ka l.length kc] (by simp [Act.eval]) ?_
  refine (put_any p v2 A _ l w3 HO3.out (HL.out.below HBB3.out) Hok.out Hlb.out (fun k hk ho => by have := HN2.out k ho; have := HLk.out k hk; omega) (fun hc => by have := form_small l hc; have := HAl.out; omega)).mono ?_
  rintro e w4 ⟨rfl, v4, h1, h2, h3⟩
  refine ⟨_, rfl, ?_⟩
  have HO4 := Keep.mk h1
  have HB4 : Keep (Below w.heap.size w w4) := ⟨⟨h3.os.trans HBB3.out.os, h3.tape.trans HBB3.out.tape, h3.output.trans HBB3.out.output, Nat.le_trans HBB3.out.size h3.size, fun j hj => by rw [h3.block j (Nat.lt_of_lt_of_le hj HBB3.out.size) (fun ho => by have := HN2.out j ho; omega)]; exact HBB3.out.block j hj⟩⟩
  have HW4 : Keep (Own w4 v3 A) := ⟨HW3.out.grown h3 (fun k hk ho => by
    have h5 := HN3.out k hk
    have h6 := HO2.out.lt ho
    omega)⟩
  have HN4 : Keep (∀ k, OF p v4 k → v3.ownBlock ≠ some k) := ⟨fun k hk ho => by
    have h5 := HN3.out k ho
    rcases hk with rfl | hk
    · have := HO2.out.lt (Or.inl rfl); omega
    · rcases h2 with e | ⟨j, e, hj⟩
      · rw [e] at hk; have := HO2.out.lt (Or.inr hk); omega
      · rw [e] at hk; injection hk with hk; have := HW3.out.lt k ho; omega⟩
  have HP4 : Keep (w.heap.size ≤ p ∧ ∀ k, v4.ownBlock = some k → w.heap.size ≤ k) := ⟨HN2.out p (Or.inl rfl), fun k hk => by
    rcases h2 with e | ⟨j, e, hj⟩
    · rw [e] at hk; exact HN2.out k (Or.inr hk)
    · rw [e] at hk; injection hk with hk; have := HBB3.out.size; omega⟩
  clear h1 h2 h3
  simp only [Act.put, List.setIfInBounds_toArray, List.set_cons_zero, List.set_cons_succ]
  refine WL.val (by kernel_rfl) (.int .i64 (chk l).1) (by go_simp) ?_
  simp only [Act.put, List.setIfInBounds_toArray, List.set_cons_zero, List.set_cons_succ]
  refine WL.nil ?_
  refine hK7 _ _ ?_
  refine wp_seq_k fun K8 hK8 => ?_
  refine wp_region_list (WL.out ?_)
  refine WL.val (by kernel_rfl) (.slice ka l.length kc) (by go_simp) ?_
  simp only [Act.put, List.setIfInBounds_toArray, List.set_cons_zero, List.set_cons_succ]
  refine WL.callF (by kernel_rfl) 11 _ _ rfl Try.in11 #[.slice ka l.length kc] (by simp [Act.eval]) ?_
  refine (rcheck_any _ l w4 (HL.out.below HB4.out) Hok.out Hlb.out).mono ?_
  rintro e w5 ⟨rfl, h1⟩
  refine ⟨_, rfl, ?_⟩
  have HO5 := Keep.mk (HO4.out.below h1)
  have HW5 : Keep (Own w5 v3 A) := ⟨HW4.out.grown (Grown.below (S := fun _ => False) h1) (fun _ _ h => h)⟩
  have HB5 := Keep.mk (HB4.out.trans (h1.mono HB4.out.size))
  clear h1
  simp only [Act.put, List.setIfInBounds_toArray, List.set_cons_zero, List.set_cons_succ]
  refine WL.val (by kernel_rfl) (.tuple #[.int .i64 (chk l).1, .int .i64 ((chk l).2 : Int)]) (by go_simp) ?_
  simp only [Act.put, List.setIfInBounds_toArray, List.set_cons_zero, List.set_cons_succ]
  refine WL.val (by kernel_rfl) (.int .i64 (chk l).1) (by go_simp) ?_
  simp only [Act.put, List.setIfInBounds_toArray, List.set_cons_zero, List.set_cons_succ]
  refine WL.val (by kernel_rfl) (.int .i64 ((chk l).2 : Int)) (by go_simp) ?_
  simp only [Act.put, List.setIfInBounds_toArray, List.set_cons_zero, List.set_cons_succ]
  refine WL.val (by kernel_rfl) (.int .i64 (chk l).1) (by go_simp) ?_
  simp only [Act.put, List.setIfInBounds_toArray, List.set_cons_zero, List.set_cons_succ]
  refine WL.val (by kernel_rfl) (.int .i64 ((chk l).2 : Int)) (by go_simp) ?_
  simp only [Act.put, List.setIfInBounds_toArray, List.set_cons_zero, List.set_cons_succ]
  refine WL.nil ?_
  refine hK8 _ _ ?_
  refine wp_seq_k fun K9 hK9 => ?_
  refine wp_seq_k fun K10 hK10 => ?_
  refine wp_region_list (WL.out ?_)
  refine WL.val (by kernel_rfl) (.int .i64 (chk l).1) (by go_simp) ?_
  simp only [Act.put, List.setIfInBounds_toArray, List.set_cons_zero, List.set_cons_succ]
  by_cases h8_1 : (chk l).1 = 0
  · rw [if_pos h8_1] at HO5
    refine WL.val (by kernel_rfl) (.bool true) (by go_simp) ?_
    simp only [Act.put, List.setIfInBounds_toArray, List.set_cons_zero, List.set_cons_succ]
    refine WL.nil ?_
    refine hK10 _ _ ?_
    refine wp_cond_true rfl ?_
    refine wp_region_list (WL.out ?_)
    refine WL.val (by kernel_rfl) (v3) (by go_simp) ?_
    simp only [Act.put, List.setIfInBounds_toArray, List.set_cons_zero, List.set_cons_succ]
    refine WL.val (by kernel_rfl) (.slice ka l.length kc) (by go_simp) ?_
    simp only [Act.put, List.setIfInBounds_toArray, List.set_cons_zero, List.set_cons_succ]
    refine WL.callF (by kernel_rfl) 19 _ _ rfl Try.in19 #[v3, .slice ka l.length kc] (by simp [Act.eval]) ?_
    refine (rput_any v3 A _ l w5 HW5.out (HL.out.below HB5.out) Hok.out (fun k hk ho => by have := HN3.out k ho; have := HLk.out k hk; have := HB2.out.size; omega) h8_1 (by have := form_small l h8_1; have := HAl.out; omega)).mono ?_
    rintro e w6 hq
    obtain ⟨v6, rfl, h1, h2, h3⟩ := hq
    refine ⟨_, rfl, ?_⟩
    have HW6 := Keep.mk h1
    have HO6 : Keep (OutAt w6 p v4 (A ++ formL l)) := ⟨HO5.out.grown h3 (fun k hk ho => HN4.out k hk ho)⟩
    have HN6 : Keep (∀ k, OF p v4 k → v6.ownBlock ≠ some k) := ⟨fun k hk ho => by
      rcases h2 with e | ⟨j, e, hj⟩
      · rw [e] at ho; exact HN4.out k hk ho
      · rw [e] at ho; injection ho with ho; have := HO5.out.lt hk; omega⟩
    have HB6 : Keep (Below w.heap.size w w6) := ⟨⟨h3.os.trans HB5.out.os, h3.tape.trans HB5.out.tape, h3.output.trans HB5.out.output, Nat.le_trans HB5.out.size h3.size, fun j hj => by rw [h3.block j (Nat.lt_of_lt_of_le hj HB5.out.size) (fun ho => by have := HN3.out j ho; have := HB2.out.size; omega)]; exact HB5.out.block j hj⟩⟩
    have HLm : Keep ((A ++ formL l).length ≤ 140738000000000) := ⟨by rw [List.length_append]; have := form_small l h8_1; have := HAl.out; omega⟩
    have HQ6 : Keep (∀ k, v6.ownBlock = some k → w.heap.size ≤ k) := ⟨fun k hk => by
      rcases h2 with e | ⟨j, e, hj⟩
      · rw [e] at hk; have := HN3.out k hk; have := HB2.out.size; omega
      · rw [e] at hk; injection hk with hk; have := HB5.out.size; omega⟩
    clear h1 h2 h3
    generalize A ++ formL l = M at *
    simp only [Act.put, List.setIfInBounds_toArray, List.set_cons_zero, List.set_cons_succ]
    refine WL.val (by kernel_rfl) (v6) (by go_simp) ?_
    simp only [Act.put, List.setIfInBounds_toArray, List.set_cons_zero, List.set_cons_succ]
    refine WL.nil ?_
    refine hK9 _ _ ?_
    refine wp_seq_k fun K11 hK11 => ?_
    refine wp_seq_k fun K12 hK12 => ?_
    have hD0 : Below w6.heap.size w6 w6.drew := (Below.refl _ _).drew
    refine wp_region_held_drew (S := fun wx => RowAt wx v6 M) (by kernel_rfl) ((HW6.out.row).below hD0) (fun hHeld => ?_)
    refine wpAnyH_take (i := 0) (oi := ⟨some 31, Op.move (Operand.tmp 7), 24, _, _, none⟩) (v := .int .i64 (chk l).1) rfl (by kernel_rfl) (by kernel_rfl) (by kernel_rfl) (fun _ _ _ h => h) (Or.inl ⟨by rfl, fun w hS => by go_simp⟩) hHeld ?_
    simp only [Act.put, List.setIfInBounds_toArray, List.set_cons_zero, List.set_cons_succ]
    refine wpAnyH_take (i := 1) (oi := ⟨some 32, Op.move (Operand.tmp 8), 24, _, _, none⟩) (v := .int .i64 (chk l).1) rfl (by kernel_rfl) (by kernel_rfl) (by kernel_rfl) (fun _ _ _ h => h) (Or.inl ⟨by rfl, fun w hS => by go_simp⟩) hHeld ?_
    simp only [Act.put, List.setIfInBounds_toArray, List.set_cons_zero, List.set_cons_succ]
    refine wpAnyH_take (i := 2) (oi := ⟨some 33, Op.binOp BinOp.neq 24 (Operand.tmp 31) (Operand.tmp 32) 24, 4, _, _, none⟩) (v := .bool false) rfl (by kernel_rfl) (by kernel_rfl) (by kernel_rfl) (fun _ _ _ h => h) (Or.inl ⟨by rfl, fun w hS => by go_simp⟩) hHeld ?_
    simp only [Act.put, List.setIfInBounds_toArray, List.set_cons_zero, List.set_cons_succ]
    refine wpAnyH_take (i := 3) (oi := ⟨some 34, Op.move (Operand.tmp 33), 4, _, _, none⟩) (v := .bool false) rfl (by kernel_rfl) (by kernel_rfl) (by kernel_rfl) (fun _ _ _ h => h) (Or.inl ⟨by rfl, fun w hS => by go_simp⟩) hHeld ?_
    simp only [Act.put, List.setIfInBounds_toArray, List.set_cons_zero, List.set_cons_succ]
    refine wpAnyH_take (i := 4) (oi := ⟨some 35, Op.move (Operand.tmp 5), 37, _, _, some (3, false)⟩) (v := .pointer (some ⟨p, 0, none⟩)) rfl (by kernel_rfl) (by kernel_rfl) (by kernel_rfl) (fun _ _ _ h => h) (Or.inl ⟨by rfl, fun w hS => by go_simp⟩) hHeld ?_
    simp only [Act.put, List.setIfInBounds_toArray, List.set_cons_zero, List.set_cons_succ]
    refine wpAnyH_take (i := 7) (oi := ⟨some 38, Op.move (Operand.tmp 6), 36, _, _, some (3, false)⟩) (v := v6) rfl (by kernel_rfl) (by kernel_rfl) (by kernel_rfl) (fun _ _ _ h => h) (Or.inl ⟨by rfl, fun w hS => by go_simp⟩) hHeld ?_
    simp only [Act.put, List.setIfInBounds_toArray, List.set_cons_zero, List.set_cons_succ]
    refine wpAnyH_take (i := 8) (oi := ⟨some 39, Op.convert 36 9 (Operand.tmp 38), 9, _, _, some (3, false)⟩) (v := .string (strOfNums M)) rfl (by kernel_rfl) (by kernel_rfl) (by kernel_rfl) (fun _ _ _ h => h) (Or.inl ⟨by rfl, fun w hS => by have hc := conv_row _ _ w (hS); go_simp⟩) hHeld ?_
    simp only [Act.put, List.setIfInBounds_toArray, List.set_cons_zero, List.set_cons_succ]
    refine wpAnyH_ready (rs := [5]) (by kernel_rfl) (by simp) ?_
    refine AllReadyH.cons (o := ⟨some 36, Op.call { callee := Callee.value (Operand.func 20), args := #[Operand.tmp 35], argTypes := #[37] }, 36, _, _, some (3, false)⟩) rfl (fun K hK => ?_) AllReadyH.nil
    rw [if_pos (by rfl)]
    refine wp_callF 20 _ _ rfl Try.in20 #[ptr p] (by simp [Act.eval]) (fun vz wz => vz = .slice (some ⟨w6.heap.size, 0, none⟩) M.length M.length ∧ wz = w6.drew.alloc (.cells (bv M).toArray 5)) ?_ ?_
    · refine (odone_any p v4 M w6.drew (HO6.out.below hD0) (by have := HLm.out; omega)).mono ?_
      rintro e wz ⟨rfl, h⟩
      exact ⟨_, rfl, rfl, h⟩
    rintro vz w7 ⟨rfl, hw7⟩
    have hB7 : Below w6.heap.size w6 w7 := by rw [hw7]; exact hD0.trans ((below_new w6.drew _).mono hD0.size)
    have hr7 : RowAt w7 (.slice (some ⟨w6.heap.size, 0, none⟩) M.length M.length) M := by rw [hw7]; exact (own_done w6.drew M (by have := HLm.out; omega)).row
    clear hw7
    refine hK.out _ _ ((HW6.out.row).below hB7) fun hHeld2 => ?_
    clear hK
    simp only [Act.put, List.setIfInBounds_toArray, List.set_cons_zero, List.set_cons_succ]
    refine wpAnyH_weaken (S' := fun wx => RowAt wx v6 M ∧ RowAt wx (.slice (some ⟨w6.heap.size, 0, none⟩) M.length M.length) M) (fun _ h => h.1) _ _ _ _ ?_
    have hH3 := And.intro hHeld2 hr7
    refine wpAnyH_take (i := 6) (oi := ⟨some 37, Op.convert 36 9 (Operand.tmp 36), 9, _, _, some (3, false)⟩) (v := .string (strOfNums M)) rfl (by kernel_rfl) (by kernel_rfl) (by kernel_rfl) (fun _ _ _ h => h) (Or.inl ⟨by rfl, fun w hS => by have hc := conv_row _ _ w (hS.2); go_simp⟩) hH3 ?_
    simp only [Act.put, List.setIfInBounds_toArray, List.set_cons_zero, List.set_cons_succ]
    refine wpAnyH_take (i := 9) (oi := ⟨some 40, Op.binOp BinOp.neq 9 (Operand.tmp 37) (Operand.tmp 39) 9, 4, _, _, some (3, false)⟩) (v := .bool false) rfl (by kernel_rfl) (by kernel_rfl) (by kernel_rfl) (fun _ _ _ h => h) (Or.inl ⟨by rfl, fun w hS => by go_simp⟩) hH3 ?_
    simp only [Act.put, List.setIfInBounds_toArray, List.set_cons_zero, List.set_cons_succ]
    refine wpAnyH_take (i := 10) (oi := ⟨some 41, Op.pick (Operand.tmp 34) (Operand.const (Value.bool true)) (Operand.tmp 40), 4, _, _, none⟩) (v := .bool false) rfl (by kernel_rfl) (by kernel_rfl) (by kernel_rfl) (fun _ _ _ h => h) (Or.inl ⟨by rfl, fun w hS => by go_simp⟩) hH3 ?_
    simp only [Act.put, List.setIfInBounds_toArray, List.set_cons_zero, List.set_cons_succ]
    refine wpAnyH_done (by kernel_rfl) ?_ _
    refine hK12 _ _ ?_
    refine wp_cond_false rfl ?_
    refine wp_skip ?_
    refine hK11 _ _ ?_
    refine wp_seq_k fun K13 hK13 => ?_
    refine wp_region_list (WL.out ?_)
    refine WL.val (by kernel_rfl) (.pointer (some ⟨p, 0, none⟩)) (by go_simp) ?_
    simp only [Act.put, List.setIfInBounds_toArray, List.set_cons_zero, List.set_cons_succ]
    have HO7 := Keep.mk (HO6.out.below hB7)
    have HW7 : Keep (Own w7 v6 M) := ⟨HW6.out.grown (Grown.below (S := fun _ => False) hB7) (fun _ _ h => h)⟩
    have HB7 := Keep.mk (HB6.out.trans (hB7.mono HB6.out.size))
    refine WL.callF (by kernel_rfl) 21 _ _ rfl Try.in21 #[ptr p, .int .u8 7] (by simp [Act.eval]) ?_
    refine (obyte_any p v4 M 7 w7 HO7.out (by have := HLm.out; simp only [List.length_append, List.length_cons, List.length_nil]; omega)).mono ?_
    rintro e w8 hq
    obtain ⟨rfl, v8, h1, h2, h3⟩ := hq
    refine ⟨_, rfl, ?_⟩
    have HO8 := Keep.mk h1
    have HW8 : Keep (Own w8 v6 M) := ⟨HW7.out.grown h3 (fun k hk ho => HN6.out k ho hk)⟩
    have HB8 : Keep (Below w.heap.size w w8) := ⟨⟨h3.os.trans HB7.out.os, h3.tape.trans HB7.out.tape, h3.output.trans HB7.out.output, Nat.le_trans HB7.out.size h3.size, fun j hj => by rw [h3.block j (Nat.lt_of_lt_of_le hj HB7.out.size) (fun ho => ho.elim (fun e => by have := HP4.out.1; omega) (fun e => by have := HP4.out.2 j e; omega))]; exact HB7.out.block j hj⟩⟩
    clear h1 h2 h3
    simp only [Act.put, List.setIfInBounds_toArray, List.set_cons_zero, List.set_cons_succ]
    refine WL.nil ?_
    refine hK13 _ _ ?_
    refine wp_seq_k fun K14 hK14 => ?_
    have hD8 : Below w8.heap.size w8 w8.drew := (Below.refl _ _).drew
    obtain ⟨N, hN⟩ : ∃ N, Keep (N = M ++ [7]) := ⟨_, ⟨rfl⟩⟩
    rw [← hN.out] at HO8
    have HNl : Keep (N.length ≤ 200000000000000) := ⟨by rw [hN.out]; have := HLm.out; simp only [List.length_append, List.length_cons, List.length_nil]; omega⟩
    refine wp_region_held_drew (S := fun _ => True) (by kernel_rfl) (trivial) (fun hHeld => ?_)
    refine wpAnyH_take (i := 0) (oi := ⟨some 44, Op.move (Operand.tmp 5), 37, _, _, none⟩) (v := .pointer (some ⟨p, 0, none⟩)) rfl (by kernel_rfl) (by kernel_rfl) (by kernel_rfl) (fun _ _ _ h => h) (Or.inl ⟨by rfl, fun w hS => by go_simp⟩) hHeld ?_
    simp only [Act.put, List.setIfInBounds_toArray, List.set_cons_zero, List.set_cons_succ]
    refine wpAnyH_take (i := 3) (oi := ⟨some 47, Op.move (Operand.tmp 6), 36, _, _, none⟩) (v := v6) rfl (by kernel_rfl) (by kernel_rfl) (by kernel_rfl) (fun _ _ _ h => h) (Or.inl ⟨by rfl, fun w hS => by go_simp⟩) hHeld ?_
    simp only [Act.put, List.setIfInBounds_toArray, List.set_cons_zero, List.set_cons_succ]
    refine wpAnyH_ready (rs := [1, 4]) (by kernel_rfl) (by simp) ?_
    refine AllReadyH.cons (o := ⟨some 45, Op.call { callee := Callee.value (Operand.func 20), args := #[Operand.tmp 44], argTypes := #[37] }, 36, _, _, none⟩) rfl (fun K hK => ?_) (AllReadyH.cons (o := ⟨some 48, Op.buildSlice 36 1 #[(0, Operand.const (Value.int IntKind.u8 7))], 36, _, _, none⟩) rfl (fun K hK => ?_) AllReadyH.nil)
    all_goals rw [if_pos (by rfl)]
    · refine wp_callF 20 _ _ rfl Try.in20 #[ptr p] (by simp [Act.eval]) (fun vz wz => vz = .slice (some ⟨w8.drew.heap.size, 0, none⟩) N.length N.length ∧ wz = (w8.drew).alloc (.cells (bv N).toArray 5)) ?_ ?_
      · refine (odone_any p v8 N (w8.drew) (HO8.out.below hD8) HNl.out).mono ?_
        rintro e wz ⟨rfl, h⟩
        exact ⟨_, rfl, rfl, h⟩
      rintro vz w9 ⟨rfl, hw_w9⟩
      have B_w9 : Below w8.heap.size w8 w9 := by rw [hw_w9]; exact (hD8).trans ((below_new (w8.drew) _).mono (hD8).size)
      have R_w9 : RowAt w9 (.slice (some ⟨w8.drew.heap.size, 0, none⟩) N.length N.length) N := by rw [hw_w9]; exact (own_done (w8.drew) N HNl.out).row
      have C_w9 : Below (w8.drew).heap.size (w8.drew) w9 := by rw [hw_w9]; exact below_new (w8.drew) _
      clear hw_w9
      obtain ⟨vd, hvd⟩ : ∃ vd, Keep (vd = Value.slice (some ⟨w8.drew.heap.size, 0, none⟩) N.length N.length) := ⟨_, ⟨rfl⟩⟩
      rw [← hvd.out] at R_w9 ⊢
      refine hK.out _ _ trivial fun hH2 => ?_
      clear hK
      simp only [Act.put, List.setIfInBounds_toArray, List.set_cons_zero, List.set_cons_succ]
      have hvb : Keep (∀ b, vd.ownBlock = some b → w8.heap.size ≤ b) := ⟨fun b hb => by rw [hvd.out] at hb; simp [Value.ownBlock] at hb; omega⟩
      refine wpAnyH_weaken (S' := fun wx => RowAt wx vd N) (fun _ _ => trivial) _ _ _ _ ?_
      have hH4 := R_w9
      refine wpAnyH_take (i := 2) (oi := ⟨some 46, Op.convert 36 9 (Operand.tmp 45), 9, _, _, none⟩) (v := .string (strOfNums N)) rfl (by kernel_rfl) (by kernel_rfl) (by kernel_rfl) (fun _ _ _ h => h) (Or.inl ⟨by rfl, fun w hS => by have hc := conv_row _ _ w (hS); go_simp⟩) hH4 ?_
      simp only [Act.put, List.setIfInBounds_toArray, List.set_cons_zero, List.set_cons_succ]
      refine wpAnyH_ready (rs := [4]) (by kernel_rfl) (by simp) ?_
      refine AllReadyH.cons (o := ⟨some 48, Op.buildSlice 36 1 #[(0, Operand.const (Value.int IntKind.u8 7))], 36, _, _, none⟩) rfl (fun K hK => ?_) AllReadyH.nil
      rw [if_pos (by rfl)]
      refine wp_bs 36 1 _ rfl #[(0, .int .u8 7)] (by simp [Act.eval]) _ _ (bsB 7 w9) ?_
      have B_wb : Below w8.heap.size w8 (w9.alloc (.cells #[.int .u8 7] 5)) := B_w9.trans ((below_new w9 _).mono B_w9.size)
      have R_wb := R_w9.below (below_new w9 (.cells #[.int .u8 7] 5))
      have hone := row_one w9 7
      refine hK.out _ _ R_wb fun hH4' => ?_
      clear hK
      generalize w9.alloc (.cells #[.int .u8 7] 5) = wb at *
      simp only [Act.put, List.setIfInBounds_toArray, List.set_cons_zero, List.set_cons_succ]
      clear hH4
      refine wpAnyH_ready (rs := [5]) (by kernel_rfl) (by simp) ?_
      refine AllReadyH.cons (o := ⟨some 49, Op.call { callee := Callee.builtin Builtin.append, args := #[Operand.tmp 47, Operand.tmp 48], argTypes := #[36, 36] }, 36, _, _, none⟩) rfl (fun K hK => ?_) AllReadyH.nil
      rw [if_pos (by rfl)]
      refine wp_appW (.tmp 47) (.tmp 48) rfl v6 (.slice (some ⟨w9.heap.size, 0, none⟩) 1 1) M [7] rfl rfl (HW8.out.grown (Grown.below (S := fun _ => False) B_wb) (fun _ _ h => h)) hone (by have := HNl.out; rw [hN.out] at this; simp only [List.length_append, List.length_cons, List.length_nil] at this ⊢; omega) ?_
      intro vq wq hap
      rw [← hN.out] at hap
      have Rq : RowAt wq vq N := hap.1.row
      have Rd : RowAt wq vd N := R_wb.grown hap.grown (fun b hb hlt ho => by have h5 := HW8.out.lt b ho; have h6 := hvb.out b hb; omega)
      have Bq : Keep (Below w.heap.size w wq) := ⟨by
        have g1 := hap.grown
        have b1 := HB8.out.trans (B_wb.mono HB8.out.size)
        exact ⟨g1.os.trans b1.os, g1.tape.trans b1.tape, g1.output.trans b1.output, Nat.le_trans b1.size g1.size, fun j hj => by rw [g1.block j (Nat.lt_of_lt_of_le hj b1.size) (fun ho => by have := HQ6.out j ho; omega)]; exact b1.block j hj⟩⟩
      refine hK.out _ _ Rd fun hH5 => ?_
      clear hK
      simp only [Act.put, List.setIfInBounds_toArray, List.set_cons_zero, List.set_cons_succ]
      refine wpAnyH_weaken (S' := fun wx => RowAt wx vd N ∧ RowAt wx vq N) (fun _ h => h.1) _ _ _ _ ?_
      have hH6 := And.intro Rd Rq
      refine wpAnyH_take (i := 6) (oi := ⟨some 50, Op.convert 36 9 (Operand.tmp 49), 9, _, _, none⟩) (v := .string (strOfNums N)) rfl (by kernel_rfl) (by kernel_rfl) (by kernel_rfl) (fun _ _ _ h => h) (Or.inl ⟨by rfl, fun w hS => by have hc := conv_row _ _ w (hS.2); go_simp⟩) hH6 ?_
      simp only [Act.put, List.setIfInBounds_toArray, List.set_cons_zero, List.set_cons_succ]
      refine wpAnyH_take (i := 7) (oi := ⟨some 51, Op.binOp BinOp.eql 9 (Operand.tmp 46) (Operand.tmp 50) 9, 4, _, _, none⟩) (v := .bool true) rfl (by kernel_rfl) (by kernel_rfl) (by kernel_rfl) (fun _ _ _ h => h) (Or.inl ⟨by rfl, fun w hS => by go_simp⟩) hH6 ?_
      simp only [Act.put, List.setIfInBounds_toArray, List.set_cons_zero, List.set_cons_succ]
      refine wpAnyH_take (i := 8) (oi := ⟨some 52, Op.move (Operand.tmp 51), 4, _, _, none⟩) (v := .bool true) rfl (by kernel_rfl) (by kernel_rfl) (by kernel_rfl) (fun _ _ _ h => h) (Or.inl ⟨by rfl, fun w hS => by go_simp⟩) hH6 ?_
      simp only [Act.put, List.setIfInBounds_toArray, List.set_cons_zero, List.set_cons_succ]
      refine wpAnyH_ready (rs := [9]) (by kernel_rfl) (by simp) ?_
      refine AllReadyH.cons (o := ⟨some 53, Op.call { callee := Callee.value (Operand.func 9), args := #[], argTypes := #[] }, 4, _, _, some (8, true)⟩) rfl (fun K hK => ?_) AllReadyH.nil
      rw [if_pos (by rfl)]
      refine wp_callF 9 _ _ rfl Try.in9 #[] (by simp) (fun vz wz => vz = .bool true ∧ Below wq.heap.size wq wz) ?_ ?_
      · refine (fixed_any wq).mono ?_
        rintro e wz ⟨rfl, h⟩
        exact ⟨_, rfl, rfl, h⟩
      rintro vz wf ⟨rfl, hf⟩
      have Bf := Keep.mk (Bq.out.trans (hf.mono Bq.out.size))
      refine hK.out _ _ ⟨Rd.below hf, Rq.below hf⟩ fun hH7 => ?_
      clear hK
      simp only [Act.put, List.setIfInBounds_toArray, List.set_cons_zero, List.set_cons_succ]
      refine wpAnyH_take (i := 10) (oi := ⟨some 54, Op.pick (Operand.tmp 52) (Operand.tmp 53) (Operand.const (Value.bool false)), 4, _, _, none⟩) (v := .bool true) rfl (by kernel_rfl) (by kernel_rfl) (by kernel_rfl) (fun _ _ _ h => h) (Or.inl ⟨by rfl, fun w hS => by go_simp⟩) hH7 ?_
      simp only [Act.put, List.setIfInBounds_toArray, List.set_cons_zero, List.set_cons_succ]
      refine wpAnyH_take (i := 11) (oi := ⟨some 4, Op.assign (Operand.tmp 54), 4, _, _, none⟩) (v := .bool true) rfl (by kernel_rfl) (by kernel_rfl) (by kernel_rfl) (fun _ _ _ h => h) (Or.inl ⟨by rfl, fun w hS => by go_simp⟩) hH7 ?_
      simp only [Act.put, List.setIfInBounds_toArray, List.set_cons_zero, List.set_cons_succ]
      refine wpAnyH_done (by kernel_rfl) ?_ _
      refine hK14 _ _ ?_
      refine wp_ret ?_
      go_ret
      exact ⟨rfl, Bf.out⟩
    · refine wp_bs 36 1 _ rfl #[(0, .int .u8 7)] (by simp [Act.eval]) _ _ (bsB 7 w8.drew) ?_
      have B_wb : Below w8.heap.size w8 (w8.drew.alloc (.cells #[.int .u8 7] 5)) := hD8.trans ((below_new w8.drew _).mono hD8.size)
      have hone0 := row_one w8.drew 7
      refine hK.out _ _ trivial fun hH2 => ?_
      clear hK
      have hwb : Keep (w8.heap.size < (w8.drew.alloc (.cells #[.int .u8 7] 5)).heap.size) := ⟨by simp⟩
      generalize w8.drew.alloc (.cells #[.int .u8 7] 5) = wb at *
      simp only [Act.put, List.setIfInBounds_toArray, List.set_cons_zero, List.set_cons_succ]
      clear hH2
      refine wpAnyH_ready (rs := [1]) (by kernel_rfl) (by simp) ?_
      refine AllReadyH.cons (o := ⟨some 45, Op.call { callee := Callee.value (Operand.func 20), args := #[Operand.tmp 44], argTypes := #[37] }, 36, _, _, none⟩) rfl (fun K hK => ?_) AllReadyH.nil
      rw [if_pos (by rfl)]
      refine wp_callF 20 _ _ rfl Try.in20 #[ptr p] (by simp [Act.eval]) (fun vz wz => vz = .slice (some ⟨wb.heap.size, 0, none⟩) N.length N.length ∧ wz = (wb).alloc (.cells (bv N).toArray 5)) ?_ ?_
      · refine (odone_any p v8 N (wb) (HO8.out.below B_wb) HNl.out).mono ?_
        rintro e wz ⟨rfl, h⟩
        exact ⟨_, rfl, rfl, h⟩
      rintro vz w9 ⟨rfl, hw_w9⟩
      have B_w9 : Below w8.heap.size w8 w9 := by rw [hw_w9]; exact (B_wb).trans ((below_new (wb) _).mono (B_wb).size)
      have R_w9 : RowAt w9 (.slice (some ⟨wb.heap.size, 0, none⟩) N.length N.length) N := by rw [hw_w9]; exact (own_done (wb) N HNl.out).row
      have C_w9 : Below (wb).heap.size (wb) w9 := by rw [hw_w9]; exact below_new (wb) _
      clear hw_w9
      obtain ⟨vd, hvd⟩ : ∃ vd, Keep (vd = Value.slice (some ⟨wb.heap.size, 0, none⟩) N.length N.length) := ⟨_, ⟨rfl⟩⟩
      rw [← hvd.out] at R_w9 ⊢
      refine hK.out _ _ trivial fun hH2 => ?_
      clear hK
      simp only [Act.put, List.setIfInBounds_toArray, List.set_cons_zero, List.set_cons_succ]
      have hvb : Keep (∀ b, vd.ownBlock = some b → w8.heap.size ≤ b) := ⟨fun b hb => by rw [hvd.out] at hb; simp [Value.ownBlock] at hb; have := hwb.out; omega⟩
      have hone : RowAt w9 (.slice (some ⟨w8.drew.heap.size, 0, none⟩) 1 1) [7] := hone0.below C_w9
      refine wpAnyH_weaken (S' := fun wx => RowAt wx vd N) (fun _ _ => trivial) _ _ _ _ ?_
      have hH4' := R_w9
      refine wpAnyH_take (i := 2) (oi := ⟨some 46, Op.convert 36 9 (Operand.tmp 45), 9, _, _, none⟩) (v := .string (strOfNums N)) rfl (by kernel_rfl) (by kernel_rfl) (by kernel_rfl) (fun _ _ _ h => h) (Or.inl ⟨by rfl, fun w hS => by have hc := conv_row _ _ w (hS); go_simp⟩) hH4' ?_
      simp only [Act.put, List.setIfInBounds_toArray, List.set_cons_zero, List.set_cons_succ]
      refine wpAnyH_ready (rs := [5]) (by kernel_rfl) (by simp) ?_
      refine AllReadyH.cons (o := ⟨some 49, Op.call { callee := Callee.builtin Builtin.append, args := #[Operand.tmp 47, Operand.tmp 48], argTypes := #[36, 36] }, 36, _, _, none⟩) rfl (fun K hK => ?_) AllReadyH.nil
      rw [if_pos (by rfl)]
      refine wp_appW (.tmp 47) (.tmp 48) rfl v6 (.slice (some ⟨w8.drew.heap.size, 0, none⟩) 1 1) M [7] rfl rfl (HW8.out.grown (Grown.below (S := fun _ => False) B_w9) (fun _ _ h => h)) hone (by have := HNl.out; rw [hN.out] at this; simp only [List.length_append, List.length_cons, List.length_nil] at this ⊢; omega) ?_
      intro vq wq hap
      rw [← hN.out] at hap
      have Rq : RowAt wq vq N := hap.1.row
      have Rd : RowAt wq vd N := R_w9.grown hap.grown (fun b hb hlt ho => by have h5 := HW8.out.lt b ho; have h6 := hvb.out b hb; omega)
      have Bq : Keep (Below w.heap.size w wq) := ⟨by
        have g1 := hap.grown
        have b1 := HB8.out.trans (B_w9.mono HB8.out.size)
        exact ⟨g1.os.trans b1.os, g1.tape.trans b1.tape, g1.output.trans b1.output, Nat.le_trans b1.size g1.size, fun j hj => by rw [g1.block j (Nat.lt_of_lt_of_le hj b1.size) (fun ho => by have := HQ6.out j ho; omega)]; exact b1.block j hj⟩⟩
      refine hK.out _ _ Rd fun hH5 => ?_
      clear hK
      simp only [Act.put, List.setIfInBounds_toArray, List.set_cons_zero, List.set_cons_succ]
      refine wpAnyH_weaken (S' := fun wx => RowAt wx vd N ∧ RowAt wx vq N) (fun _ h => h.1) _ _ _ _ ?_
      have hH6 := And.intro Rd Rq
      refine wpAnyH_take (i := 6) (oi := ⟨some 50, Op.convert 36 9 (Operand.tmp 49), 9, _, _, none⟩) (v := .string (strOfNums N)) rfl (by kernel_rfl) (by kernel_rfl) (by kernel_rfl) (fun _ _ _ h => h) (Or.inl ⟨by rfl, fun w hS => by have hc := conv_row _ _ w (hS.2); go_simp⟩) hH6 ?_
      simp only [Act.put, List.setIfInBounds_toArray, List.set_cons_zero, List.set_cons_succ]
      refine wpAnyH_take (i := 7) (oi := ⟨some 51, Op.binOp BinOp.eql 9 (Operand.tmp 46) (Operand.tmp 50) 9, 4, _, _, none⟩) (v := .bool true) rfl (by kernel_rfl) (by kernel_rfl) (by kernel_rfl) (fun _ _ _ h => h) (Or.inl ⟨by rfl, fun w hS => by go_simp⟩) hH6 ?_
      simp only [Act.put, List.setIfInBounds_toArray, List.set_cons_zero, List.set_cons_succ]
      refine wpAnyH_take (i := 8) (oi := ⟨some 52, Op.move (Operand.tmp 51), 4, _, _, none⟩) (v := .bool true) rfl (by kernel_rfl) (by kernel_rfl) (by kernel_rfl) (fun _ _ _ h => h) (Or.inl ⟨by rfl, fun w hS => by go_simp⟩) hH6 ?_
      simp only [Act.put, List.setIfInBounds_toArray, List.set_cons_zero, List.set_cons_succ]
      refine wpAnyH_ready (rs := [9]) (by kernel_rfl) (by simp) ?_
      refine AllReadyH.cons (o := ⟨some 53, Op.call { callee := Callee.value (Operand.func 9), args := #[], argTypes := #[] }, 4, _, _, some (8, true)⟩) rfl (fun K hK => ?_) AllReadyH.nil
      rw [if_pos (by rfl)]
      refine wp_callF 9 _ _ rfl Try.in9 #[] (by simp) (fun vz wz => vz = .bool true ∧ Below wq.heap.size wq wz) ?_ ?_
      · refine (fixed_any wq).mono ?_
        rintro e wz ⟨rfl, h⟩
        exact ⟨_, rfl, rfl, h⟩
      rintro vz wf ⟨rfl, hf⟩
      have Bf := Keep.mk (Bq.out.trans (hf.mono Bq.out.size))
      refine hK.out _ _ ⟨Rd.below hf, Rq.below hf⟩ fun hH7 => ?_
      clear hK
      simp only [Act.put, List.setIfInBounds_toArray, List.set_cons_zero, List.set_cons_succ]
      refine wpAnyH_take (i := 10) (oi := ⟨some 54, Op.pick (Operand.tmp 52) (Operand.tmp 53) (Operand.const (Value.bool false)), 4, _, _, none⟩) (v := .bool true) rfl (by kernel_rfl) (by kernel_rfl) (by kernel_rfl) (fun _ _ _ h => h) (Or.inl ⟨by rfl, fun w hS => by go_simp⟩) hH7 ?_
      simp only [Act.put, List.setIfInBounds_toArray, List.set_cons_zero, List.set_cons_succ]
      refine wpAnyH_take (i := 11) (oi := ⟨some 4, Op.assign (Operand.tmp 54), 4, _, _, none⟩) (v := .bool true) rfl (by kernel_rfl) (by kernel_rfl) (by kernel_rfl) (fun _ _ _ h => h) (Or.inl ⟨by rfl, fun w hS => by go_simp⟩) hH7 ?_
      simp only [Act.put, List.setIfInBounds_toArray, List.set_cons_zero, List.set_cons_succ]
      refine wpAnyH_done (by kernel_rfl) ?_ _
      refine hK14 _ _ ?_
      refine wp_ret ?_
      go_ret
      exact ⟨rfl, Bf.out⟩
  · rw [if_neg h8_1] at HO5
    refine WL.val (by kernel_rfl) (.bool false) (by go_simp) ?_
    simp only [Act.put, List.setIfInBounds_toArray, List.set_cons_zero, List.set_cons_succ]
    refine WL.nil ?_
    refine hK10 _ _ ?_
    refine wp_cond_false rfl ?_
    refine wp_skip ?_
    refine hK9 _ _ ?_
    refine wp_seq_k fun K15 hK15 => ?_
    refine wp_seq_k fun K16 hK16 => ?_
    have hD0 : Below w5.heap.size w5 w5.drew := (Below.refl _ _).drew
    refine wp_region_held_drew (S := fun wx => RowAt wx v3 A) (by kernel_rfl) ((HW5.out.row).below hD0) (fun hHeld => ?_)
    refine wpAnyH_take (i := 0) (oi := ⟨some 31, Op.move (Operand.tmp 7), 24, _, _, none⟩) (v := .int .i64 (chk l).1) rfl (by kernel_rfl) (by kernel_rfl) (by kernel_rfl) (fun _ _ _ h => h) (Or.inl ⟨by rfl, fun w hS => by go_simp⟩) hHeld ?_
    simp only [Act.put, List.setIfInBounds_toArray, List.set_cons_zero, List.set_cons_succ]
    refine wpAnyH_take (i := 1) (oi := ⟨some 32, Op.move (Operand.tmp 8), 24, _, _, none⟩) (v := .int .i64 (chk l).1) rfl (by kernel_rfl) (by kernel_rfl) (by kernel_rfl) (fun _ _ _ h => h) (Or.inl ⟨by rfl, fun w hS => by go_simp⟩) hHeld ?_
    simp only [Act.put, List.setIfInBounds_toArray, List.set_cons_zero, List.set_cons_succ]
    refine wpAnyH_take (i := 2) (oi := ⟨some 33, Op.binOp BinOp.neq 24 (Operand.tmp 31) (Operand.tmp 32) 24, 4, _, _, none⟩) (v := .bool false) rfl (by kernel_rfl) (by kernel_rfl) (by kernel_rfl) (fun _ _ _ h => h) (Or.inl ⟨by rfl, fun w hS => by go_simp⟩) hHeld ?_
    simp only [Act.put, List.setIfInBounds_toArray, List.set_cons_zero, List.set_cons_succ]
    refine wpAnyH_take (i := 3) (oi := ⟨some 34, Op.move (Operand.tmp 33), 4, _, _, none⟩) (v := .bool false) rfl (by kernel_rfl) (by kernel_rfl) (by kernel_rfl) (fun _ _ _ h => h) (Or.inl ⟨by rfl, fun w hS => by go_simp⟩) hHeld ?_
    simp only [Act.put, List.setIfInBounds_toArray, List.set_cons_zero, List.set_cons_succ]
    refine wpAnyH_take (i := 4) (oi := ⟨some 35, Op.move (Operand.tmp 5), 37, _, _, some (3, false)⟩) (v := .pointer (some ⟨p, 0, none⟩)) rfl (by kernel_rfl) (by kernel_rfl) (by kernel_rfl) (fun _ _ _ h => h) (Or.inl ⟨by rfl, fun w hS => by go_simp⟩) hHeld ?_
    simp only [Act.put, List.setIfInBounds_toArray, List.set_cons_zero, List.set_cons_succ]
    refine wpAnyH_take (i := 7) (oi := ⟨some 38, Op.move (Operand.tmp 6), 36, _, _, some (3, false)⟩) (v := v3) rfl (by kernel_rfl) (by kernel_rfl) (by kernel_rfl) (fun _ _ _ h => h) (Or.inl ⟨by rfl, fun w hS => by go_simp⟩) hHeld ?_
    simp only [Act.put, List.setIfInBounds_toArray, List.set_cons_zero, List.set_cons_succ]
    refine wpAnyH_take (i := 8) (oi := ⟨some 39, Op.convert 36 9 (Operand.tmp 38), 9, _, _, some (3, false)⟩) (v := .string (strOfNums A)) rfl (by kernel_rfl) (by kernel_rfl) (by kernel_rfl) (fun _ _ _ h => h) (Or.inl ⟨by rfl, fun w hS => by have hc := conv_row _ _ w (hS); go_simp⟩) hHeld ?_
    simp only [Act.put, List.setIfInBounds_toArray, List.set_cons_zero, List.set_cons_succ]
    refine wpAnyH_ready (rs := [5]) (by kernel_rfl) (by simp) ?_
    refine AllReadyH.cons (o := ⟨some 36, Op.call { callee := Callee.value (Operand.func 20), args := #[Operand.tmp 35], argTypes := #[37] }, 36, _, _, some (3, false)⟩) rfl (fun K hK => ?_) AllReadyH.nil
    rw [if_pos (by rfl)]
    refine wp_callF 20 _ _ rfl Try.in20 #[ptr p] (by simp [Act.eval]) (fun vz wz => vz = .slice (some ⟨w5.heap.size, 0, none⟩) A.length A.length ∧ wz = w5.drew.alloc (.cells (bv A).toArray 5)) ?_ ?_
    · refine (odone_any p v4 A w5.drew (HO5.out.below hD0) (by have := HAm.out; omega)).mono ?_
      rintro e wz ⟨rfl, h⟩
      exact ⟨_, rfl, rfl, h⟩
    rintro vz w7 ⟨rfl, hw7⟩
    have hB7 : Below w5.heap.size w5 w7 := by rw [hw7]; exact hD0.trans ((below_new w5.drew _).mono hD0.size)
    have hr7 : RowAt w7 (.slice (some ⟨w5.heap.size, 0, none⟩) A.length A.length) A := by rw [hw7]; exact (own_done w5.drew A (by have := HAm.out; omega)).row
    clear hw7
    refine hK.out _ _ ((HW5.out.row).below hB7) fun hHeld2 => ?_
    clear hK
    simp only [Act.put, List.setIfInBounds_toArray, List.set_cons_zero, List.set_cons_succ]
    refine wpAnyH_weaken (S' := fun wx => RowAt wx v3 A ∧ RowAt wx (.slice (some ⟨w5.heap.size, 0, none⟩) A.length A.length) A) (fun _ h => h.1) _ _ _ _ ?_
    have hH3 := And.intro hHeld2 hr7
    refine wpAnyH_take (i := 6) (oi := ⟨some 37, Op.convert 36 9 (Operand.tmp 36), 9, _, _, some (3, false)⟩) (v := .string (strOfNums A)) rfl (by kernel_rfl) (by kernel_rfl) (by kernel_rfl) (fun _ _ _ h => h) (Or.inl ⟨by rfl, fun w hS => by have hc := conv_row _ _ w (hS.2); go_simp⟩) hH3 ?_
    simp only [Act.put, List.setIfInBounds_toArray, List.set_cons_zero, List.set_cons_succ]
    refine wpAnyH_take (i := 9) (oi := ⟨some 40, Op.binOp BinOp.neq 9 (Operand.tmp 37) (Operand.tmp 39) 9, 4, _, _, some (3, false)⟩) (v := .bool false) rfl (by kernel_rfl) (by kernel_rfl) (by kernel_rfl) (fun _ _ _ h => h) (Or.inl ⟨by rfl, fun w hS => by go_simp⟩) hH3 ?_
    simp only [Act.put, List.setIfInBounds_toArray, List.set_cons_zero, List.set_cons_succ]
    refine wpAnyH_take (i := 10) (oi := ⟨some 41, Op.pick (Operand.tmp 34) (Operand.const (Value.bool true)) (Operand.tmp 40), 4, _, _, none⟩) (v := .bool false) rfl (by kernel_rfl) (by kernel_rfl) (by kernel_rfl) (fun _ _ _ h => h) (Or.inl ⟨by rfl, fun w hS => by go_simp⟩) hH3 ?_
    simp only [Act.put, List.setIfInBounds_toArray, List.set_cons_zero, List.set_cons_succ]
    refine wpAnyH_done (by kernel_rfl) ?_ _
    refine hK16 _ _ ?_
    refine wp_cond_false rfl ?_
    refine wp_skip ?_
    refine hK15 _ _ ?_
    refine wp_seq_k fun K17 hK17 => ?_
    refine wp_region_list (WL.out ?_)
    refine WL.val (by kernel_rfl) (.pointer (some ⟨p, 0, none⟩)) (by go_simp) ?_
    simp only [Act.put, List.setIfInBounds_toArray, List.set_cons_zero, List.set_cons_succ]
    have HO7 := Keep.mk (HO5.out.below hB7)
    have HW7 : Keep (Own w7 v3 A) := ⟨HW5.out.grown (Grown.below (S := fun _ => False) hB7) (fun _ _ h => h)⟩
    have HB7 := Keep.mk (HB5.out.trans (hB7.mono HB5.out.size))
    refine WL.callF (by kernel_rfl) 21 _ _ rfl Try.in21 #[ptr p, .int .u8 7] (by simp [Act.eval]) ?_
    refine (obyte_any p v4 A 7 w7 HO7.out (by have := HAm.out; simp only [List.length_append, List.length_cons, List.length_nil]; omega)).mono ?_
    rintro e w8 hq
    obtain ⟨rfl, v8, h1, h2, h3⟩ := hq
    refine ⟨_, rfl, ?_⟩
    have HO8 := Keep.mk h1
    have HW8 : Keep (Own w8 v3 A) := ⟨HW7.out.grown h3 (fun k hk ho => HN4.out k ho hk)⟩
    have HB8 : Keep (Below w.heap.size w w8) := ⟨⟨h3.os.trans HB7.out.os, h3.tape.trans HB7.out.tape, h3.output.trans HB7.out.output, Nat.le_trans HB7.out.size h3.size, fun j hj => by rw [h3.block j (Nat.lt_of_lt_of_le hj HB7.out.size) (fun ho => ho.elim (fun e => by have := HP4.out.1; omega) (fun e => by have := HP4.out.2 j e; omega))]; exact HB7.out.block j hj⟩⟩
    clear h1 h2 h3
    simp only [Act.put, List.setIfInBounds_toArray, List.set_cons_zero, List.set_cons_succ]
    refine WL.nil ?_
    refine hK17 _ _ ?_
    refine wp_seq_k fun K18 hK18 => ?_
    have hD8 : Below w8.heap.size w8 w8.drew := (Below.refl _ _).drew
    obtain ⟨N, hN⟩ : ∃ N, Keep (N = A ++ [7]) := ⟨_, ⟨rfl⟩⟩
    rw [← hN.out] at HO8
    have HNl : Keep (N.length ≤ 200000000000000) := ⟨by rw [hN.out]; have := HAm.out; simp only [List.length_append, List.length_cons, List.length_nil]; omega⟩
    refine wp_region_held_drew (S := fun _ => True) (by kernel_rfl) (trivial) (fun hHeld => ?_)
    refine wpAnyH_take (i := 0) (oi := ⟨some 44, Op.move (Operand.tmp 5), 37, _, _, none⟩) (v := .pointer (some ⟨p, 0, none⟩)) rfl (by kernel_rfl) (by kernel_rfl) (by kernel_rfl) (fun _ _ _ h => h) (Or.inl ⟨by rfl, fun w hS => by go_simp⟩) hHeld ?_
    simp only [Act.put, List.setIfInBounds_toArray, List.set_cons_zero, List.set_cons_succ]
    refine wpAnyH_take (i := 3) (oi := ⟨some 47, Op.move (Operand.tmp 6), 36, _, _, none⟩) (v := v3) rfl (by kernel_rfl) (by kernel_rfl) (by kernel_rfl) (fun _ _ _ h => h) (Or.inl ⟨by rfl, fun w hS => by go_simp⟩) hHeld ?_
    simp only [Act.put, List.setIfInBounds_toArray, List.set_cons_zero, List.set_cons_succ]
    refine wpAnyH_ready (rs := [1, 4]) (by kernel_rfl) (by simp) ?_
    refine AllReadyH.cons (o := ⟨some 45, Op.call { callee := Callee.value (Operand.func 20), args := #[Operand.tmp 44], argTypes := #[37] }, 36, _, _, none⟩) rfl (fun K hK => ?_) (AllReadyH.cons (o := ⟨some 48, Op.buildSlice 36 1 #[(0, Operand.const (Value.int IntKind.u8 7))], 36, _, _, none⟩) rfl (fun K hK => ?_) AllReadyH.nil)
    all_goals rw [if_pos (by rfl)]
    · refine wp_callF 20 _ _ rfl Try.in20 #[ptr p] (by simp [Act.eval]) (fun vz wz => vz = .slice (some ⟨w8.drew.heap.size, 0, none⟩) N.length N.length ∧ wz = (w8.drew).alloc (.cells (bv N).toArray 5)) ?_ ?_
      · refine (odone_any p v8 N (w8.drew) (HO8.out.below hD8) HNl.out).mono ?_
        rintro e wz ⟨rfl, h⟩
        exact ⟨_, rfl, rfl, h⟩
      rintro vz w9 ⟨rfl, hw_w9⟩
      have B_w9 : Below w8.heap.size w8 w9 := by rw [hw_w9]; exact (hD8).trans ((below_new (w8.drew) _).mono (hD8).size)
      have R_w9 : RowAt w9 (.slice (some ⟨w8.drew.heap.size, 0, none⟩) N.length N.length) N := by rw [hw_w9]; exact (own_done (w8.drew) N HNl.out).row
      have C_w9 : Below (w8.drew).heap.size (w8.drew) w9 := by rw [hw_w9]; exact below_new (w8.drew) _
      clear hw_w9
      obtain ⟨vd, hvd⟩ : ∃ vd, Keep (vd = Value.slice (some ⟨w8.drew.heap.size, 0, none⟩) N.length N.length) := ⟨_, ⟨rfl⟩⟩
      rw [← hvd.out] at R_w9 ⊢
      refine hK.out _ _ trivial fun hH2 => ?_
      clear hK
      simp only [Act.put, List.setIfInBounds_toArray, List.set_cons_zero, List.set_cons_succ]
      have hvb : Keep (∀ b, vd.ownBlock = some b → w8.heap.size ≤ b) := ⟨fun b hb => by rw [hvd.out] at hb; simp [Value.ownBlock] at hb; omega⟩
      refine wpAnyH_weaken (S' := fun wx => RowAt wx vd N) (fun _ _ => trivial) _ _ _ _ ?_
      have hH4 := R_w9
      refine wpAnyH_take (i := 2) (oi := ⟨some 46, Op.convert 36 9 (Operand.tmp 45), 9, _, _, none⟩) (v := .string (strOfNums N)) rfl (by kernel_rfl) (by kernel_rfl) (by kernel_rfl) (fun _ _ _ h => h) (Or.inl ⟨by rfl, fun w hS => by have hc := conv_row _ _ w (hS); go_simp⟩) hH4 ?_
      simp only [Act.put, List.setIfInBounds_toArray, List.set_cons_zero, List.set_cons_succ]
      refine wpAnyH_ready (rs := [4]) (by kernel_rfl) (by simp) ?_
      refine AllReadyH.cons (o := ⟨some 48, Op.buildSlice 36 1 #[(0, Operand.const (Value.int IntKind.u8 7))], 36, _, _, none⟩) rfl (fun K hK => ?_) AllReadyH.nil
      rw [if_pos (by rfl)]
      refine wp_bs 36 1 _ rfl #[(0, .int .u8 7)] (by simp [Act.eval]) _ _ (bsB 7 w9) ?_
      have B_wb : Below w8.heap.size w8 (w9.alloc (.cells #[.int .u8 7] 5)) := B_w9.trans ((below_new w9 _).mono B_w9.size)
      have R_wb := R_w9.below (below_new w9 (.cells #[.int .u8 7] 5))
      have hone := row_one w9 7
      refine hK.out _ _ R_wb fun hH4' => ?_
      clear hK
      generalize w9.alloc (.cells #[.int .u8 7] 5) = wb at *
      simp only [Act.put, List.setIfInBounds_toArray, List.set_cons_zero, List.set_cons_succ]
      clear hH4
      refine wpAnyH_ready (rs := [5]) (by kernel_rfl) (by simp) ?_
      refine AllReadyH.cons (o := ⟨some 49, Op.call { callee := Callee.builtin Builtin.append, args := #[Operand.tmp 47, Operand.tmp 48], argTypes := #[36, 36] }, 36, _, _, none⟩) rfl (fun K hK => ?_) AllReadyH.nil
      rw [if_pos (by rfl)]
      refine wp_appW (.tmp 47) (.tmp 48) rfl v3 (.slice (some ⟨w9.heap.size, 0, none⟩) 1 1) A [7] rfl rfl (HW8.out.grown (Grown.below (S := fun _ => False) B_wb) (fun _ _ h => h)) hone (by have := HNl.out; rw [hN.out] at this; simp only [List.length_append, List.length_cons, List.length_nil] at this ⊢; omega) ?_
      intro vq wq hap
      rw [← hN.out] at hap
      have Rq : RowAt wq vq N := hap.1.row
      have Rd : RowAt wq vd N := R_wb.grown hap.grown (fun b hb hlt ho => by have h5 := HW8.out.lt b ho; have h6 := hvb.out b hb; omega)
      have Bq : Keep (Below w.heap.size w wq) := ⟨by
        have g1 := hap.grown
        have b1 := HB8.out.trans (B_wb.mono HB8.out.size)
        exact ⟨g1.os.trans b1.os, g1.tape.trans b1.tape, g1.output.trans b1.output, Nat.le_trans b1.size g1.size, fun j hj => by rw [g1.block j (Nat.lt_of_lt_of_le hj b1.size) (fun ho => by have := HQ3.out j ho; omega)]; exact b1.block j hj⟩⟩
      refine hK.out _ _ Rd fun hH5 => ?_
      clear hK
      simp only [Act.put, List.setIfInBounds_toArray, List.set_cons_zero, List.set_cons_succ]
      refine wpAnyH_weaken (S' := fun wx => RowAt wx vd N ∧ RowAt wx vq N) (fun _ h => h.1) _ _ _ _ ?_
      have hH6 := And.intro Rd Rq
      refine wpAnyH_take (i := 6) (oi := ⟨some 50, Op.convert 36 9 (Operand.tmp 49), 9, _, _, none⟩) (v := .string (strOfNums N)) rfl (by kernel_rfl) (by kernel_rfl) (by kernel_rfl) (fun _ _ _ h => h) (Or.inl ⟨by rfl, fun w hS => by have hc := conv_row _ _ w (hS.2); go_simp⟩) hH6 ?_
      simp only [Act.put, List.setIfInBounds_toArray, List.set_cons_zero, List.set_cons_succ]
      refine wpAnyH_take (i := 7) (oi := ⟨some 51, Op.binOp BinOp.eql 9 (Operand.tmp 46) (Operand.tmp 50) 9, 4, _, _, none⟩) (v := .bool true) rfl (by kernel_rfl) (by kernel_rfl) (by kernel_rfl) (fun _ _ _ h => h) (Or.inl ⟨by rfl, fun w hS => by go_simp⟩) hH6 ?_
      simp only [Act.put, List.setIfInBounds_toArray, List.set_cons_zero, List.set_cons_succ]
      refine wpAnyH_take (i := 8) (oi := ⟨some 52, Op.move (Operand.tmp 51), 4, _, _, none⟩) (v := .bool true) rfl (by kernel_rfl) (by kernel_rfl) (by kernel_rfl) (fun _ _ _ h => h) (Or.inl ⟨by rfl, fun w hS => by go_simp⟩) hH6 ?_
      simp only [Act.put, List.setIfInBounds_toArray, List.set_cons_zero, List.set_cons_succ]
      refine wpAnyH_ready (rs := [9]) (by kernel_rfl) (by simp) ?_
      refine AllReadyH.cons (o := ⟨some 53, Op.call { callee := Callee.value (Operand.func 9), args := #[], argTypes := #[] }, 4, _, _, some (8, true)⟩) rfl (fun K hK => ?_) AllReadyH.nil
      rw [if_pos (by rfl)]
      refine wp_callF 9 _ _ rfl Try.in9 #[] (by simp) (fun vz wz => vz = .bool true ∧ Below wq.heap.size wq wz) ?_ ?_
      · refine (fixed_any wq).mono ?_
        rintro e wz ⟨rfl, h⟩
        exact ⟨_, rfl, rfl, h⟩
      rintro vz wf ⟨rfl, hf⟩
      have Bf := Keep.mk (Bq.out.trans (hf.mono Bq.out.size))
      refine hK.out _ _ ⟨Rd.below hf, Rq.below hf⟩ fun hH7 => ?_
      clear hK
      simp only [Act.put, List.setIfInBounds_toArray, List.set_cons_zero, List.set_cons_succ]
      refine wpAnyH_take (i := 10) (oi := ⟨some 54, Op.pick (Operand.tmp 52) (Operand.tmp 53) (Operand.const (Value.bool false)), 4, _, _, none⟩) (v := .bool true) rfl (by kernel_rfl) (by kernel_rfl) (by kernel_rfl) (fun _ _ _ h => h) (Or.inl ⟨by rfl, fun w hS => by go_simp⟩) hH7 ?_
      simp only [Act.put, List.setIfInBounds_toArray, List.set_cons_zero, List.set_cons_succ]
      refine wpAnyH_take (i := 11) (oi := ⟨some 4, Op.assign (Operand.tmp 54), 4, _, _, none⟩) (v := .bool true) rfl (by kernel_rfl) (by kernel_rfl) (by kernel_rfl) (fun _ _ _ h => h) (Or.inl ⟨by rfl, fun w hS => by go_simp⟩) hH7 ?_
      simp only [Act.put, List.setIfInBounds_toArray, List.set_cons_zero, List.set_cons_succ]
      refine wpAnyH_done (by kernel_rfl) ?_ _
      refine hK18 _ _ ?_
      refine wp_ret ?_
      go_ret
      exact ⟨rfl, Bf.out⟩
    · refine wp_bs 36 1 _ rfl #[(0, .int .u8 7)] (by simp [Act.eval]) _ _ (bsB 7 w8.drew) ?_
      have B_wb : Below w8.heap.size w8 (w8.drew.alloc (.cells #[.int .u8 7] 5)) := hD8.trans ((below_new w8.drew _).mono hD8.size)
      have hone0 := row_one w8.drew 7
      refine hK.out _ _ trivial fun hH2 => ?_
      clear hK
      have hwb : Keep (w8.heap.size < (w8.drew.alloc (.cells #[.int .u8 7] 5)).heap.size) := ⟨by simp⟩
      generalize w8.drew.alloc (.cells #[.int .u8 7] 5) = wb at *
      simp only [Act.put, List.setIfInBounds_toArray, List.set_cons_zero, List.set_cons_succ]
      clear hH2
      refine wpAnyH_ready (rs := [1]) (by kernel_rfl) (by simp) ?_
      refine AllReadyH.cons (o := ⟨some 45, Op.call { callee := Callee.value (Operand.func 20), args := #[Operand.tmp 44], argTypes := #[37] }, 36, _, _, none⟩) rfl (fun K hK => ?_) AllReadyH.nil
      rw [if_pos (by rfl)]
      refine wp_callF 20 _ _ rfl Try.in20 #[ptr p] (by simp [Act.eval]) (fun vz wz => vz = .slice (some ⟨wb.heap.size, 0, none⟩) N.length N.length ∧ wz = (wb).alloc (.cells (bv N).toArray 5)) ?_ ?_
      · refine (odone_any p v8 N (wb) (HO8.out.below B_wb) HNl.out).mono ?_
        rintro e wz ⟨rfl, h⟩
        exact ⟨_, rfl, rfl, h⟩
      rintro vz w9 ⟨rfl, hw_w9⟩
      have B_w9 : Below w8.heap.size w8 w9 := by rw [hw_w9]; exact (B_wb).trans ((below_new (wb) _).mono (B_wb).size)
      have R_w9 : RowAt w9 (.slice (some ⟨wb.heap.size, 0, none⟩) N.length N.length) N := by rw [hw_w9]; exact (own_done (wb) N HNl.out).row
      have C_w9 : Below (wb).heap.size (wb) w9 := by rw [hw_w9]; exact below_new (wb) _
      clear hw_w9
      obtain ⟨vd, hvd⟩ : ∃ vd, Keep (vd = Value.slice (some ⟨wb.heap.size, 0, none⟩) N.length N.length) := ⟨_, ⟨rfl⟩⟩
      rw [← hvd.out] at R_w9 ⊢
      refine hK.out _ _ trivial fun hH2 => ?_
      clear hK
      simp only [Act.put, List.setIfInBounds_toArray, List.set_cons_zero, List.set_cons_succ]
      have hvb : Keep (∀ b, vd.ownBlock = some b → w8.heap.size ≤ b) := ⟨fun b hb => by rw [hvd.out] at hb; simp [Value.ownBlock] at hb; have := hwb.out; omega⟩
      have hone : RowAt w9 (.slice (some ⟨w8.drew.heap.size, 0, none⟩) 1 1) [7] := hone0.below C_w9
      refine wpAnyH_weaken (S' := fun wx => RowAt wx vd N) (fun _ _ => trivial) _ _ _ _ ?_
      have hH4' := R_w9
      refine wpAnyH_take (i := 2) (oi := ⟨some 46, Op.convert 36 9 (Operand.tmp 45), 9, _, _, none⟩) (v := .string (strOfNums N)) rfl (by kernel_rfl) (by kernel_rfl) (by kernel_rfl) (fun _ _ _ h => h) (Or.inl ⟨by rfl, fun w hS => by have hc := conv_row _ _ w (hS); go_simp⟩) hH4' ?_
      simp only [Act.put, List.setIfInBounds_toArray, List.set_cons_zero, List.set_cons_succ]
      refine wpAnyH_ready (rs := [5]) (by kernel_rfl) (by simp) ?_
      refine AllReadyH.cons (o := ⟨some 49, Op.call { callee := Callee.builtin Builtin.append, args := #[Operand.tmp 47, Operand.tmp 48], argTypes := #[36, 36] }, 36, _, _, none⟩) rfl (fun K hK => ?_) AllReadyH.nil
      rw [if_pos (by rfl)]
      refine wp_appW (.tmp 47) (.tmp 48) rfl v3 (.slice (some ⟨w8.drew.heap.size, 0, none⟩) 1 1) A [7] rfl rfl (HW8.out.grown (Grown.below (S := fun _ => False) B_w9) (fun _ _ h => h)) hone (by have := HNl.out; rw [hN.out] at this; simp only [List.length_append, List.length_cons, List.length_nil] at this ⊢; omega) ?_
      intro vq wq hap
      rw [← hN.out] at hap
      have Rq : RowAt wq vq N := hap.1.row
      have Rd : RowAt wq vd N := R_w9.grown hap.grown (fun b hb hlt ho => by have h5 := HW8.out.lt b ho; have h6 := hvb.out b hb; omega)
      have Bq : Keep (Below w.heap.size w wq) := ⟨by
        have g1 := hap.grown
        have b1 := HB8.out.trans (B_w9.mono HB8.out.size)
        exact ⟨g1.os.trans b1.os, g1.tape.trans b1.tape, g1.output.trans b1.output, Nat.le_trans b1.size g1.size, fun j hj => by rw [g1.block j (Nat.lt_of_lt_of_le hj b1.size) (fun ho => by have := HQ3.out j ho; omega)]; exact b1.block j hj⟩⟩
      refine hK.out _ _ Rd fun hH5 => ?_
      clear hK
      simp only [Act.put, List.setIfInBounds_toArray, List.set_cons_zero, List.set_cons_succ]
      refine wpAnyH_weaken (S' := fun wx => RowAt wx vd N ∧ RowAt wx vq N) (fun _ h => h.1) _ _ _ _ ?_
      have hH6 := And.intro Rd Rq
      refine wpAnyH_take (i := 6) (oi := ⟨some 50, Op.convert 36 9 (Operand.tmp 49), 9, _, _, none⟩) (v := .string (strOfNums N)) rfl (by kernel_rfl) (by kernel_rfl) (by kernel_rfl) (fun _ _ _ h => h) (Or.inl ⟨by rfl, fun w hS => by have hc := conv_row _ _ w (hS.2); go_simp⟩) hH6 ?_
      simp only [Act.put, List.setIfInBounds_toArray, List.set_cons_zero, List.set_cons_succ]
      refine wpAnyH_take (i := 7) (oi := ⟨some 51, Op.binOp BinOp.eql 9 (Operand.tmp 46) (Operand.tmp 50) 9, 4, _, _, none⟩) (v := .bool true) rfl (by kernel_rfl) (by kernel_rfl) (by kernel_rfl) (fun _ _ _ h => h) (Or.inl ⟨by rfl, fun w hS => by go_simp⟩) hH6 ?_
      simp only [Act.put, List.setIfInBounds_toArray, List.set_cons_zero, List.set_cons_succ]
      refine wpAnyH_take (i := 8) (oi := ⟨some 52, Op.move (Operand.tmp 51), 4, _, _, none⟩) (v := .bool true) rfl (by kernel_rfl) (by kernel_rfl) (by kernel_rfl) (fun _ _ _ h => h) (Or.inl ⟨by rfl, fun w hS => by go_simp⟩) hH6 ?_
      simp only [Act.put, List.setIfInBounds_toArray, List.set_cons_zero, List.set_cons_succ]
      refine wpAnyH_ready (rs := [9]) (by kernel_rfl) (by simp) ?_
      refine AllReadyH.cons (o := ⟨some 53, Op.call { callee := Callee.value (Operand.func 9), args := #[], argTypes := #[] }, 4, _, _, some (8, true)⟩) rfl (fun K hK => ?_) AllReadyH.nil
      rw [if_pos (by rfl)]
      refine wp_callF 9 _ _ rfl Try.in9 #[] (by simp) (fun vz wz => vz = .bool true ∧ Below wq.heap.size wq wz) ?_ ?_
      · refine (fixed_any wq).mono ?_
        rintro e wz ⟨rfl, h⟩
        exact ⟨_, rfl, rfl, h⟩
      rintro vz wf ⟨rfl, hf⟩
      have Bf := Keep.mk (Bq.out.trans (hf.mono Bq.out.size))
      refine hK.out _ _ ⟨Rd.below hf, Rq.below hf⟩ fun hH7 => ?_
      clear hK
      simp only [Act.put, List.setIfInBounds_toArray, List.set_cons_zero, List.set_cons_succ]
      refine wpAnyH_take (i := 10) (oi := ⟨some 54, Op.pick (Operand.tmp 52) (Operand.tmp 53) (Operand.const (Value.bool false)), 4, _, _, none⟩) (v := .bool true) rfl (by kernel_rfl) (by kernel_rfl) (by kernel_rfl) (fun _ _ _ h => h) (Or.inl ⟨by rfl, fun w hS => by go_simp⟩) hH7 ?_
      simp only [Act.put, List.setIfInBounds_toArray, List.set_cons_zero, List.set_cons_succ]
      refine wpAnyH_take (i := 11) (oi := ⟨some 4, Op.assign (Operand.tmp 54), 4, _, _, none⟩) (v := .bool true) rfl (by kernel_rfl) (by kernel_rfl) (by kernel_rfl) (fun _ _ _ h => h) (Or.inl ⟨by rfl, fun w hS => by go_simp⟩) hH7 ?_
      simp only [Act.put, List.setIfInBounds_toArray, List.set_cons_zero, List.set_cons_succ]
      refine wpAnyH_done (by kernel_rfl) ?_ _
      refine hK18 _ _ ?_
      refine wp_ret ?_
      go_ret
      exact ⟨rfl, Bf.out⟩

end Go.Proofs.Ytbkboebinhafhaa
