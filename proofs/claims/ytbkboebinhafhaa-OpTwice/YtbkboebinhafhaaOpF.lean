import Derived.Test.YtbkboebinhafhaaOpE
namespace Go.Proofs.Ytbkboebinhafhaa
open Go.RowKit
set_option linter.unusedSimpArgs false

/-- A call of function f at 'Oper.wp'. -/
theorem wp_callF {P : Program} {Q : Exit → Act → World → Prop} {o : Oper} {a : Act} {w : World} {K : Act → World → Prop} (f : FuncId) (args : Array Operand) (ts : Array TypeId) (ho : o.op = .call { callee := .value (.func f), args := args, argTypes := ts })
    (hf : ∀ (w : World) (vs : Array Value), (callFunc f vs).run P w = .ok (.enter f vs) w)
    (vs : Array Value) (hvs : args.map a.eval = vs)
    (R : Value → World → Prop) (hc : Calls P f vs w fun e w' => ∃ v, e = .returned v ∧ R v w')
    (h : ∀ v w', R v w' → K (a.put o.dst v) w') : o.wp P a w K Q := by
  unfold Oper.wp
  rw [run_callF a o f args ts ho hf w, Oper.upon_enter, hvs]
  refine hc.mono ?_
  rintro e w' ⟨v, rfl, hr⟩
  exact h v w' hr
/-- A look into the table, in every world that has grown. -/
theorem TabAt.look2 {w : World} {m : Nat} (h : TabAt w m) (k : Int) : ∃ v, FieldsAt w v (hasI k) ∧ ∀ wx, Below w.heap.size w wx →
    (Instr.lookup 69 (.map (some m)) (.int .i64 k) false).run Try.prog wx = .ok v wx ∧ (Instr.lookup 69 (.map (some m)) (.int .i64 k) true).run Try.prog wx = .ok (.tuple #[v, .bool (!(hasI k).isEmpty)]) wx := by
  obtain ⟨V, h1, h2⟩ := h.ex
  have h3 := fun wx (hb : Below w.heap.size w wx) => run_look wx m _ k (h1.grown (Grown.below (S := fun _ => False) hb) (fun h => h))
  simp only [find_tab] at h3
  by_cases hk : k ∈ ([1, 2, 3, 4, 5, 6, 7, 8, 9] : List Int)
  · refine ⟨V k, h2 k hk, fun wx hb => ⟨by rw [h3 wx hb, if_pos hk]; rfl, ?_⟩⟩
    have : (hasI k).isEmpty = false := by simpa using hasI_some k hk
    rw [h3 wx hb, if_pos hk, this]; rfl
  · refine ⟨.slice none 0 0, .inl ⟨rfl, hasI_none k hk⟩, fun wx hb => ⟨by rw [h3 wx hb, if_neg hk]; rfl, ?_⟩⟩
    rw [h3 wx hb, if_neg hk, hasI_none k hk]; rfl
theorem Try.elem23 : Try.prog.elem 23 = 33 := by kernel_rfl
theorem Try.sizeOf33 (w : World) : (sizeOf 33).run Try.prog w = .ok 37 w := by kernel_rfl
theorem sl_run23 (base : Option Addr) (n cap a : Nat) (ha : a ≤ cap) (wx : World) : (Instr.sliceAt 23 (.slice base n cap) none (some (.int .i64 (a : Int))) none).run Try.prog wx = .ok (.slice base a cap) wx := by
  have hu : Try.prog.underlying 23 = some (.slice (Try.prog.elem 23)) := by rw [Try.elem23]; exact Try.underlying23
  have h1 := run_slice_h (P := Try.prog) (w := wx) 23 base n cap hu .i64 (a : Int) (by omega) (by omega)
  have h2 := run_sliceAt_slice (P := Try.prog) (w := wx) 23 (.slice base n cap) none (some (.int .i64 (a : Int))) none hu
  rw [Try.elem23] at h1
  have h3 : sliced base 0 (a : Int).toNat cap 37 = .slice base a cap := by
    have h4 : (if cap = 0 then base else base.map (·.add (0 * 37))) = base := by
      split
      · rfl
      · cases base <;> rfl
    unfold sliced
    rw [h4, Int.toNat_natCast, Nat.sub_zero, Nat.sub_zero]
  rw [h2, h1]
  refine (congrArg (fun z => Result.andThen z fun s w => Result.ok (sliced base 0 (a : Int).toNat cap s) w) (Try.sizeOf33 wx)).trans ?_
  show Result.ok (sliced base 0 (a : Int).toNat cap 37) wx = _
  rw [h3]
theorem OpsAt.take {w : World} {a : Option Addr} {n c : Nat} {l : List OpV} (h : OpsAt w (.slice a n c) l) {t : Nat} (ht : t ≤ l.length) : t ≤ c ∧ OpsAt w (.slice a t c) (l.take t) := by
  rcases h with ⟨_, _, e, rfl⟩ | ⟨b, off, cap, e, h2, h3⟩
  · obtain rfl : t = 0 := by simpa using ht
    exact ⟨Nat.zero_le _, .inl ⟨_, _, rfl, rfl⟩⟩
  · injection e with e1 e2 e3
    subst e1 e3
    refine ⟨by omega, .inr ⟨b, off, c, ?_, ?_, fun i x hx => h3 i x ?_⟩⟩
    · rw [List.length_take, Nat.min_eq_left ht]
    · rw [List.length_take]; omega
    · rw [List.getElem?_take] at hx; split at hx
      · exact hx
      · cases hx
theorem chkF_step (l : List OpV) (t : Nat) (ht : t < l.length) : chkF (l.take t) (l.drop t) = if wrongV (l.take t) (l.getD t zeroOp) = 0 then chkF (l.take (t + 1)) (l.drop (t + 1)) else (wrongV (l.take t) (l.getD t zeroOp), t) := by
  rw [List.drop_eq_getElem_cons ht, chkF, List.take_succ_eq_append_getElem ht, List.length_take, Nat.min_eq_left (by omega)]
  rw [show l.getD t zeroOp = l[t] by simp [List.getD_eq_getElem?_getD, ht]]
set_option maxRecDepth 8000 in
set_option maxHeartbeats 1000000 in
theorem check_any (v : Value) (l : List OpV) (w : World) (hl : OpsAt w v l) (hok : ∀ x ∈ l, OpOk x) (hb : l.length ≤ 4398046511104) :
    Calls Try.prog 10 #[v] w fun e w' => e = .returned (.tuple #[.int .i64 (chk l).1, .int .i64 ((chk l).2 : Int)]) ∧ Below w.heap.size w w' := by
  obtain ⟨va, vc, rfl⟩ := hl.form
  have HL := Keep.mk hl
  have Hok := Keep.mk hok
  have Hlb := Keep.mk hb
  have hb' : (l.length : Int) ≤ 9223372036854775807 := by omega
  obtain ⟨R, hR⟩ : ∃ R, R = chk l := ⟨_, rfl⟩
  rw [← hR]
  unfold chk at hR
  have HR := Keep.mk hR
  clear hl hok hb hR
  go_enter Try.func10, Try.ntmps10
  by_cases hM : 1024 < l.length
  · have hM' : (1024 : Int) < (l.length : Int) := by omega
    rw [if_pos hM] at HR
    refine wp_seq_k fun K1 hK1 => ?_
    refine wp_region_list (WL.out ?_)
    refine WL.val (by kernel_rfl) (.int .i64 0) (by go_simp) ?_
    simp only [Act.put, List.setIfInBounds_toArray, List.set_cons_zero, List.set_cons_succ]
    refine WL.val (by kernel_rfl) (.int .i64 0) (by go_simp) ?_
    simp only [Act.put, List.setIfInBounds_toArray, List.set_cons_zero, List.set_cons_succ]
    refine WL.nil ?_
    refine hK1 _ _ ?_
    refine wp_seq_k fun K2 hK2 => ?_
    refine wp_seq_k fun K3 hK3 => ?_
    refine wp_region_list (WL.out ?_)
    refine WL.val (by kernel_rfl) (.slice va l.length vc) (by go_simp) ?_
    simp only [Act.put, List.setIfInBounds_toArray, List.set_cons_zero, List.set_cons_succ]
    refine WL.val (by kernel_rfl) (.int .i64 (l.length : Int)) (by go_simp) ?_
    simp only [Act.put, List.setIfInBounds_toArray, List.set_cons_zero, List.set_cons_succ]
    refine WL.val (by kernel_rfl) (.bool true) (by go_simp) ?_
    simp only [Act.put, List.setIfInBounds_toArray, List.set_cons_zero, List.set_cons_succ]
    refine WL.nil ?_
    refine hK3 _ _ ?_
    refine wp_cond_true rfl ?_
    refine wp_seq_k fun K4 hK4 => ?_
    refine wp_region_list (WL.out ?_)
    refine WL.val (by kernel_rfl) (.int .i64 3) (by go_simp) ?_
    simp only [Act.put, List.setIfInBounds_toArray, List.set_cons_zero, List.set_cons_succ]
    refine WL.val (by kernel_rfl) (.int .i64 0) (by go_simp) ?_
    simp only [Act.put, List.setIfInBounds_toArray, List.set_cons_zero, List.set_cons_succ]
    refine WL.nil ?_
    refine hK4 _ _ ?_
    refine wp_ret ?_
    go_ret2
    exact ⟨by rw [HR.out]; rfl, Below.refl _ _⟩
  · have hM' : ¬ (1024 : Int) < (l.length : Int) := by omega
    rw [if_neg hM] at HR
    refine wp_seq_k fun K1 hK1 => ?_
    refine wp_region_list (WL.out ?_)
    refine WL.val (by kernel_rfl) (.int .i64 0) (by go_simp) ?_
    simp only [Act.put, List.setIfInBounds_toArray, List.set_cons_zero, List.set_cons_succ]
    refine WL.val (by kernel_rfl) (.int .i64 0) (by go_simp) ?_
    simp only [Act.put, List.setIfInBounds_toArray, List.set_cons_zero, List.set_cons_succ]
    refine WL.nil ?_
    refine hK1 _ _ ?_
    refine wp_seq_k fun K2 hK2 => ?_
    refine wp_seq_k fun K3 hK3 => ?_
    refine wp_region_list (WL.out ?_)
    refine WL.val (by kernel_rfl) (.slice va l.length vc) (by go_simp) ?_
    simp only [Act.put, List.setIfInBounds_toArray, List.set_cons_zero, List.set_cons_succ]
    refine WL.val (by kernel_rfl) (.int .i64 (l.length : Int)) (by go_simp) ?_
    simp only [Act.put, List.setIfInBounds_toArray, List.set_cons_zero, List.set_cons_succ]
    refine WL.val (by kernel_rfl) (.bool false) (by go_simp) ?_
    simp only [Act.put, List.setIfInBounds_toArray, List.set_cons_zero, List.set_cons_succ]
    refine WL.nil ?_
    refine hK3 _ _ ?_
    refine wp_cond_false rfl ?_
    refine wp_skip ?_
    refine hK2 _ _ ?_
    refine wp_seq_k fun K4 hK4 => ?_
    refine wp_region_list (WL.out ?_)
    refine WL.callF (by kernel_rfl) 34 _ _ rfl Try.in34 #[] (by simp) ?_
    refine (tab_any w).mono ?_
    rintro e w1 ⟨m, rfl, hT1, hm1, hB1⟩
    refine ⟨_, rfl, ?_⟩
    have hL1 := HL.out.below hB1
    simp only [Act.put, List.setIfInBounds_toArray, List.set_cons_zero, List.set_cons_succ]
    refine WL.val (by kernel_rfl) (.map (some m)) (by go_simp) ?_
    simp only [Act.put, List.setIfInBounds_toArray, List.set_cons_zero, List.set_cons_succ]
    refine WL.nil ?_
    refine hK4 _ _ ?_
    refine wp_seq_k fun K5 hK5 => ?_
    refine wp_seq_k fun K6 hK6 => ?_
    refine wp_region_list (WL.out ?_)
    refine WL.val (by kernel_rfl) (.slice va l.length vc) (by go_simp) ?_
    simp only [Act.put, List.setIfInBounds_toArray, List.set_cons_zero, List.set_cons_succ]
    refine WL.val (by kernel_rfl) (.int .i64 (l.length : Int)) (by go_simp) ?_
    simp only [Act.put, List.setIfInBounds_toArray, List.set_cons_zero, List.set_cons_succ]
    refine WL.val (by kernel_rfl) (.int .i64 0) (by go_simp) ?_
    simp only [Act.put, List.setIfInBounds_toArray, List.set_cons_zero, List.set_cons_succ]
    refine WL.nil ?_
    refine hK6 _ _ ?_
    refine wp_block ?_
    refine wp_loop (fun a wr => ∃ (t : Nat) (u2 u3 u5 u6 u7 u15 u16 u17 u18 u19 u20 u21 u22 u23 u24 u25 u26 u27 u28 u29 u30 u31 u32 : Value), a = { tmps := #[.slice va l.length vc, undef, u2, u3, .map (some m), u5, u6, u7, .slice va l.length vc, .int .i64 (l.length : Int), .bool false, .map (some m), .slice va l.length vc, .int .i64 (l.length : Int), .int .i64 (t : Int), u15, u16, u17, u18, u19, u20, u21, u22, u23, u24, u25, u26, u27, u28, u29, u30, u31, u32], defers := [] } ∧ t ≤ l.length ∧ chkF [] l = chkF (l.take t) (l.drop t) ∧ TabAt wr m ∧ OpsAt wr (.slice va l.length vc) l ∧ Below w.heap.size w wr) (fun a _ => l.length - (intOf (a.tmps.getD 14 undef)).toNat) ⟨0, .int .i64 0, .int .i64 0, undef, undef, undef, undef, undef, undef, undef, undef, undef, undef, undef, undef, undef, undef, undef, undef, undef, undef, undef, undef, undef, rfl, by omega, rfl, hT1, hL1, hB1⟩ ?_
    rintro a wr ⟨t, u2, u3, u5, u6, u7, u15, u16, u17, u18, u19, u20, u21, u22, u23, u24, u25, u26, u27, u28, u29, u30, u31, u32, rfl, ht, hC, hT, hL, hB⟩
    by_cases htl : t < l.length
    · have htl' : (t : Int) < (l.length : Int) := by omega
      obtain ⟨gL, ofL, hva, hr⟩ := hL.at htl
      have hst := chkF_step l t htl
      have htk := hL.take (Nat.le_of_lt htl)
      have hmem : l.getD t zeroOp ∈ l := by simp [List.getD_eq_getElem?_getD, htl]
      have Hx := Keep.mk (Hok.out _ hmem)
      generalize l.getD t zeroOp = x at *
      have hwr1 : IntKind.i64.wrap ((t : Int) + 1) = (t : Int) + 1 := by rw [IntKind.wrap_i64]; have := Hlb.out; omega
      have HLl := Keep.mk hL
      have HBl := Keep.mk hB
      have HTl := Keep.mk hT
      have Hst := Keep.mk hst
      have Htk := Keep.mk htk
      clear hL hB hT hst htk hmem
      by_cases hW : wrongV (l.take t) x = 0
      · refine wp_seq_k fun K7 hK7 => ?_
        refine wp_region_list (WL.out ?_)
        refine WL.val (by kernel_rfl) (.bool true) (by go_simp) ?_
        simp only [Act.put, List.setIfInBounds_toArray, List.set_cons_zero, List.set_cons_succ]
        refine WL.nil ?_
        refine hK7 _ _ ?_
        refine wp_seq_k fun K8 hK8 => ?_
        refine wp_cond_true rfl ?_
        refine wp_skip ?_
        refine hK8 _ _ ?_
        refine wp_seq_k fun K9 hK9 => ?_
        refine wp_block ?_
        refine wp_seq_k fun K10 hK10 => ?_
        refine wp_region_list (WL.out ?_)
        refine WL.val (by kernel_rfl) (.int .i64 (t : Int)) (by go_simp) ?_
        simp only [Act.put, List.setIfInBounds_toArray, List.set_cons_zero, List.set_cons_succ]
        refine WL.val (by kernel_rfl) (.pointer (some ⟨gL, ofL + t * 37, none⟩)) (by go_simp) ?_
        simp only [Act.put, List.setIfInBounds_toArray, List.set_cons_zero, List.set_cons_succ]
        refine WL.mid (by kernel_rfl) 33 (.tmp 17) rfl gL (ofL + t * 37) rfl (opL x) _ hr Try.underlying33 rfl (Try.size33L x) ?_
        rw [rng_load]
        simp only [Act.put, List.setIfInBounds_toArray, List.set_cons_zero, List.set_cons_succ]
        refine WL.new (by kernel_rfl) 33 rfl _ Try.new33 ?_
        simp only [Act.put, List.setIfInBounds_toArray, List.set_cons_zero, List.set_cons_succ]
        refine WL.val (by kernel_rfl) (.int .i64 (t : Int)) (by go_simp) ?_
        simp only [Act.put, List.setIfInBounds_toArray, List.set_cons_zero, List.set_cons_succ]
        refine WL.storeR (by kernel_rfl) 33 (.tmp 6) (.tmp 18) rfl wr.heap.size (opA x) rfl rfl 33 (opA zeroOp) (Blk.new wr 33 _) (Try.size33B x) (opA_sizes _ _) (opA_one x) ?_
        have HX := Keep.mk ((Blk.new wr 33 (opA zeroOp)).setRow (opA x))
        have HG : Keep (Below wr.heap.size wr ((wr.alloc (.cells (opA zeroOp) 33)).setRow wr.heap.size (opA x))) := ⟨below_setRow (below_new wr _) (Nat.le_refl _) _⟩
        generalize (wr.alloc (.cells (opA zeroOp) 33)).setRow wr.heap.size (opA x) = wq at *
        obtain ⟨vF, hvF, hlk⟩ := (HTl.out.below HG.out).look2 x.kind
        have HvF := Keep.mk hvF
        have HS0 : Keep (∀ wx, Below wq.heap.size wq wx → wx.rangeAt wr.heap.size 0 (opL x) ∧ wx.cell? ⟨wr.heap.size, 0, none⟩ = some (.int .i64 x.kind) ∧ (Instr.lookup 69 (.map (some m)) (.int .i64 x.kind) false).run Try.prog wx = .ok vF wx) := ⟨fun wx hb => ⟨blk_range (HX.out.below hb HX.out.lt), (HX.out.below hb HX.out.lt).c 0 (opA_0 x), (hlk wx hb).1⟩⟩
        clear hvF hlk
        simp only [Act.put]
        refine WL.nil ?_
        refine hK10 _ _ ?_
        refine wp_seq_k fun K11 hK11 => ?_
        have hD0 : Below wq.heap.size wq wq.drew := (Below.refl _ _).drew
        refine wp_region_held_drew (S := fun wx => wx.rangeAt wr.heap.size 0 (opL x) ∧ wx.cell? ⟨wr.heap.size, 0, none⟩ = some (.int .i64 x.kind) ∧ (Instr.lookup 69 (.map (some m)) (.int .i64 x.kind) false).run Try.prog wx = .ok vF wx) (by kernel_rfl) (HS0.out _ hD0) (fun hHeld => ?_)
        refine wpAnyH_take (i := 0) (oi := ⟨some 19, Op.load 33 (Operand.tmp 6), 33, _, _, none⟩) (v := .agg (opL x).toArray) rfl (by kernel_rfl) (by kernel_rfl) (by kernel_rfl) (fun _ _ _ h => h) (yieldsIf_load_mid (by rfl) 33 (Operand.tmp 6) rfl wr.heap.size 0 rfl (opL x) _ (fun w hS => hS.1) Try.underlying33 rfl (Try.size33L x)) hHeld ?_
        simp only [Act.put, List.setIfInBounds_toArray, List.set_cons_zero, List.set_cons_succ]
        refine wpAnyH_take (i := 1) (oi := ⟨some 20, Op.move (Operand.tmp 4), 69, _, _, none⟩) (v := .map (some m)) rfl (by kernel_rfl) (by kernel_rfl) (by kernel_rfl) (fun _ _ _ h => h) (Or.inl ⟨by rfl, fun w hS => by obtain ⟨hs1, hs2, hs3⟩ := hS; go_simp⟩) hHeld ?_
        simp only [Act.put, List.setIfInBounds_toArray, List.set_cons_zero, List.set_cons_succ]
        refine wpAnyH_take (i := 2) (oi := ⟨some 21, Op.fieldAddr 33 (Operand.tmp 6) 0, 0, _, _, none⟩) (v := .pointer (some ⟨wr.heap.size, 0, none⟩)) rfl (by kernel_rfl) (by kernel_rfl) (by kernel_rfl) (fun _ _ _ h => h) (Or.inl ⟨by rfl, fun w hS => by obtain ⟨hs1, hs2, hs3⟩ := hS; go_simp⟩) hHeld ?_
        simp only [Act.put, List.setIfInBounds_toArray, List.set_cons_zero, List.set_cons_succ]
        refine wpAnyH_take (i := 3) (oi := ⟨some 22, Op.load 3 (Operand.tmp 21), 3, _, _, none⟩) (v := .int .i64 x.kind) rfl (by kernel_rfl) (by kernel_rfl) (by kernel_rfl) (fun _ _ _ h => h) (Or.inl ⟨by rfl, fun w hS => by obtain ⟨hs1, hs2, hs3⟩ := hS; go_simp⟩) hHeld ?_
        simp only [Act.put, List.setIfInBounds_toArray, List.set_cons_zero, List.set_cons_succ]
        refine wpAnyH_take (i := 4) (oi := ⟨some 23, Op.lookup 69 (Operand.tmp 20) (Operand.tmp 22) false, 72, _, _, none⟩) (v := vF) rfl (by kernel_rfl) (by kernel_rfl) (by kernel_rfl) (fun _ _ _ h => h) (Or.inl ⟨by rfl, fun w hS => by obtain ⟨hs1, hs2, hs3⟩ := hS; go_simp⟩) hHeld ?_
        simp only [Act.put, List.setIfInBounds_toArray, List.set_cons_zero, List.set_cons_succ]
        refine wpAnyH_take (i := 5) (oi := ⟨some 24, Op.move (Operand.tmp 0), 23, _, _, none⟩) (v := .slice va l.length vc) rfl (by kernel_rfl) (by kernel_rfl) (by kernel_rfl) (fun _ _ _ h => h) (Or.inl ⟨by rfl, fun w hS => by obtain ⟨hs1, hs2, hs3⟩ := hS; go_simp⟩) hHeld ?_
        simp only [Act.put, List.setIfInBounds_toArray, List.set_cons_zero, List.set_cons_succ]
        refine wpAnyH_take (i := 6) (oi := ⟨some 25, Op.move (Operand.tmp 5), 3, _, _, none⟩) (v := .int .i64 (t : Int)) rfl (by kernel_rfl) (by kernel_rfl) (by kernel_rfl) (fun _ _ _ h => h) (Or.inl ⟨by rfl, fun w hS => by obtain ⟨hs1, hs2, hs3⟩ := hS; go_simp⟩) hHeld ?_
        simp only [Act.put, List.setIfInBounds_toArray, List.set_cons_zero, List.set_cons_succ]
        refine wpAnyH_take (i := 7) (oi := ⟨some 26, Op.slice 23 (Operand.tmp 24) none (some (Operand.tmp 25)) none, 23, _, _, none⟩) (v := .slice va t vc) rfl (by kernel_rfl) (by kernel_rfl) (by kernel_rfl) (fun _ _ _ h => h) (yieldsIf_slice (by rfl) 23 (Operand.tmp 24) (Operand.tmp 25) rfl (.slice va l.length vc) (.int .i64 (t : Int)) (.slice va t vc) rfl rfl (sl_run23 _ _ _ t Htk.out.1)) hHeld ?_
        simp only [Act.put, List.setIfInBounds_toArray, List.set_cons_zero, List.set_cons_succ]
        refine wpAnyH_ready (rs := [8]) (by kernel_rfl) (by simp) ?_
        refine AllReadyH.cons (o := ⟨some 27, Op.call { callee := Callee.value (Operand.func 35), args := #[Operand.tmp 19, Operand.tmp 23, Operand.tmp 26], argTypes := #[33, 72, 23] }, 24, _, _, none⟩) rfl (fun K hK => ?_) AllReadyH.nil
        rw [if_pos (by rfl)]
        refine wp_callF 35 _ _ rfl Try.in35 #[.agg (opA x), vF, .slice va t vc] (by simp [Act.eval, rng_load]) (fun vz wz => vz = .int .i64 (wrongV (l.take t) x) ∧ Below wq.heap.size wq wz) ?_ ?_
        · refine (wrong_any x vF _ (l.take t) wq.drew (HvF.out.below hD0) Hx.out (Htk.out.2.below (HG.out.trans (hD0.mono HG.out.size))) (by have := Hlb.out; rw [List.length_take]; omega)).mono ?_
          rintro e wz ⟨rfl, h⟩
          exact ⟨_, rfl, rfl, hD0.trans (h.mono hD0.size)⟩
        rintro vz w7 ⟨rfl, h7⟩
        have HB7 := Keep.mk h7
        clear h7
        refine hK.out _ _ (HS0.out _ HB7.out) fun hHeld2 => ?_
        clear hK
        simp only [Act.put, List.setIfInBounds_toArray, List.set_cons_zero, List.set_cons_succ]
        refine wpAnyH_take (i := 9) (oi := ⟨some 7, Op.assign (Operand.tmp 27), 24, _, _, none⟩) (v := .int .i64 (wrongV (l.take t) x)) rfl (by kernel_rfl) (by kernel_rfl) (by kernel_rfl) (fun _ _ _ h => h) (Or.inl ⟨by rfl, fun w hS => by obtain ⟨hs1, hs2, hs3⟩ := hS; go_simp⟩) hHeld2 ?_
        simp only [Act.put, List.setIfInBounds_toArray, List.set_cons_zero, List.set_cons_succ]
        refine wpAnyH_done (by kernel_rfl) ?_ _
        refine hK11 _ _ ?_
        refine wp_seq_k fun K12 hK12 => ?_
        refine wp_region_list (WL.out ?_)
        refine WL.val (by kernel_rfl) (.int .i64 (wrongV (l.take t) x)) (by go_simp) ?_
        simp only [Act.put, List.setIfInBounds_toArray, List.set_cons_zero, List.set_cons_succ]
        refine WL.val (by kernel_rfl) (.bool false) (by go_simp) ?_
        simp only [Act.put, List.setIfInBounds_toArray, List.set_cons_zero, List.set_cons_succ]
        refine WL.nil ?_
        refine hK12 _ _ ?_
        refine wp_cond_false rfl ?_
        refine wp_skip ?_
        refine hK9 _ _ ?_
        refine wp_region_list (WL.out ?_)
        refine WL.val (by kernel_rfl) (.int .i64 ((t : Int) + 1)) (by go_simp) ?_
        simp only [Act.put, List.setIfInBounds_toArray, List.set_cons_zero, List.set_cons_succ]
        refine WL.val (by kernel_rfl) (.int .i64 ((t : Int) + 1)) (by go_simp) ?_
        simp only [Act.put, List.setIfInBounds_toArray, List.set_cons_zero, List.set_cons_succ]
        refine WL.nil ?_
        rw [if_pos hW] at Hst
        have HB8 := Keep.mk (HG.out.trans (HB7.out.mono HG.out.size))
        refine ⟨⟨t + 1, u2, u3, .int .i64 (t : Int), .pointer (some ⟨wr.heap.size, 0, none⟩), .int .i64 (wrongV (l.take t) x), .bool true, .int .i64 (t : Int), .pointer (some ⟨gL, ofL + t * 37, none⟩), .agg (opA x), .agg (opL x).toArray, .map (some m), .pointer (some ⟨wr.heap.size, 0, none⟩), .int .i64 x.kind, vF, .slice va l.length vc, .int .i64 (t : Int), .slice va t vc, .int .i64 (wrongV (l.take t) x), .int .i64 (wrongV (l.take t) x), .bool false, u30, u31, .int .i64 ((t : Int) + 1), rfl, by omega, hC.trans Hst.out, HTl.out.below HB8.out, HLl.out.below HB8.out, HBl.out.trans (HB8.out.mono HBl.out.size)⟩, ?_⟩
        simp only [intOf]; show l.length - ((t : Int) + 1).toNat < l.length - ((t : Int)).toNat; omega
      · refine wp_seq_k fun K13 hK13 => ?_
        refine wp_region_list (WL.out ?_)
        refine WL.val (by kernel_rfl) (.bool true) (by go_simp) ?_
        simp only [Act.put, List.setIfInBounds_toArray, List.set_cons_zero, List.set_cons_succ]
        refine WL.nil ?_
        refine hK13 _ _ ?_
        refine wp_seq_k fun K14 hK14 => ?_
        refine wp_cond_true rfl ?_
        refine wp_skip ?_
        refine hK14 _ _ ?_
        refine wp_seq_k fun K15 hK15 => ?_
        refine wp_block ?_
        refine wp_seq_k fun K16 hK16 => ?_
        refine wp_region_list (WL.out ?_)
        refine WL.val (by kernel_rfl) (.int .i64 (t : Int)) (by go_simp) ?_
        simp only [Act.put, List.setIfInBounds_toArray, List.set_cons_zero, List.set_cons_succ]
        refine WL.val (by kernel_rfl) (.pointer (some ⟨gL, ofL + t * 37, none⟩)) (by go_simp) ?_
        simp only [Act.put, List.setIfInBounds_toArray, List.set_cons_zero, List.set_cons_succ]
        refine WL.mid (by kernel_rfl) 33 (.tmp 17) rfl gL (ofL + t * 37) rfl (opL x) _ hr Try.underlying33 rfl (Try.size33L x) ?_
        rw [rng_load]
        simp only [Act.put, List.setIfInBounds_toArray, List.set_cons_zero, List.set_cons_succ]
        refine WL.new (by kernel_rfl) 33 rfl _ Try.new33 ?_
        simp only [Act.put, List.setIfInBounds_toArray, List.set_cons_zero, List.set_cons_succ]
        refine WL.val (by kernel_rfl) (.int .i64 (t : Int)) (by go_simp) ?_
        simp only [Act.put, List.setIfInBounds_toArray, List.set_cons_zero, List.set_cons_succ]
        refine WL.storeR (by kernel_rfl) 33 (.tmp 6) (.tmp 18) rfl wr.heap.size (opA x) rfl rfl 33 (opA zeroOp) (Blk.new wr 33 _) (Try.size33B x) (opA_sizes _ _) (opA_one x) ?_
        have HX := Keep.mk ((Blk.new wr 33 (opA zeroOp)).setRow (opA x))
        have HG : Keep (Below wr.heap.size wr ((wr.alloc (.cells (opA zeroOp) 33)).setRow wr.heap.size (opA x))) := ⟨below_setRow (below_new wr _) (Nat.le_refl _) _⟩
        generalize (wr.alloc (.cells (opA zeroOp) 33)).setRow wr.heap.size (opA x) = wq at *
        obtain ⟨vF, hvF, hlk⟩ := (HTl.out.below HG.out).look2 x.kind
        have HvF := Keep.mk hvF
        have HS0 : Keep (∀ wx, Below wq.heap.size wq wx → wx.rangeAt wr.heap.size 0 (opL x) ∧ wx.cell? ⟨wr.heap.size, 0, none⟩ = some (.int .i64 x.kind) ∧ (Instr.lookup 69 (.map (some m)) (.int .i64 x.kind) false).run Try.prog wx = .ok vF wx) := ⟨fun wx hb => ⟨blk_range (HX.out.below hb HX.out.lt), (HX.out.below hb HX.out.lt).c 0 (opA_0 x), (hlk wx hb).1⟩⟩
        clear hvF hlk
        simp only [Act.put]
        refine WL.nil ?_
        refine hK16 _ _ ?_
        refine wp_seq_k fun K17 hK17 => ?_
        have hD0 : Below wq.heap.size wq wq.drew := (Below.refl _ _).drew
        refine wp_region_held_drew (S := fun wx => wx.rangeAt wr.heap.size 0 (opL x) ∧ wx.cell? ⟨wr.heap.size, 0, none⟩ = some (.int .i64 x.kind) ∧ (Instr.lookup 69 (.map (some m)) (.int .i64 x.kind) false).run Try.prog wx = .ok vF wx) (by kernel_rfl) (HS0.out _ hD0) (fun hHeld => ?_)
        refine wpAnyH_take (i := 0) (oi := ⟨some 19, Op.load 33 (Operand.tmp 6), 33, _, _, none⟩) (v := .agg (opL x).toArray) rfl (by kernel_rfl) (by kernel_rfl) (by kernel_rfl) (fun _ _ _ h => h) (yieldsIf_load_mid (by rfl) 33 (Operand.tmp 6) rfl wr.heap.size 0 rfl (opL x) _ (fun w hS => hS.1) Try.underlying33 rfl (Try.size33L x)) hHeld ?_
        simp only [Act.put, List.setIfInBounds_toArray, List.set_cons_zero, List.set_cons_succ]
        refine wpAnyH_take (i := 1) (oi := ⟨some 20, Op.move (Operand.tmp 4), 69, _, _, none⟩) (v := .map (some m)) rfl (by kernel_rfl) (by kernel_rfl) (by kernel_rfl) (fun _ _ _ h => h) (Or.inl ⟨by rfl, fun w hS => by obtain ⟨hs1, hs2, hs3⟩ := hS; go_simp⟩) hHeld ?_
        simp only [Act.put, List.setIfInBounds_toArray, List.set_cons_zero, List.set_cons_succ]
        refine wpAnyH_take (i := 2) (oi := ⟨some 21, Op.fieldAddr 33 (Operand.tmp 6) 0, 0, _, _, none⟩) (v := .pointer (some ⟨wr.heap.size, 0, none⟩)) rfl (by kernel_rfl) (by kernel_rfl) (by kernel_rfl) (fun _ _ _ h => h) (Or.inl ⟨by rfl, fun w hS => by obtain ⟨hs1, hs2, hs3⟩ := hS; go_simp⟩) hHeld ?_
        simp only [Act.put, List.setIfInBounds_toArray, List.set_cons_zero, List.set_cons_succ]
        refine wpAnyH_take (i := 3) (oi := ⟨some 22, Op.load 3 (Operand.tmp 21), 3, _, _, none⟩) (v := .int .i64 x.kind) rfl (by kernel_rfl) (by kernel_rfl) (by kernel_rfl) (fun _ _ _ h => h) (Or.inl ⟨by rfl, fun w hS => by obtain ⟨hs1, hs2, hs3⟩ := hS; go_simp⟩) hHeld ?_
        simp only [Act.put, List.setIfInBounds_toArray, List.set_cons_zero, List.set_cons_succ]
        refine wpAnyH_take (i := 4) (oi := ⟨some 23, Op.lookup 69 (Operand.tmp 20) (Operand.tmp 22) false, 72, _, _, none⟩) (v := vF) rfl (by kernel_rfl) (by kernel_rfl) (by kernel_rfl) (fun _ _ _ h => h) (Or.inl ⟨by rfl, fun w hS => by obtain ⟨hs1, hs2, hs3⟩ := hS; go_simp⟩) hHeld ?_
        simp only [Act.put, List.setIfInBounds_toArray, List.set_cons_zero, List.set_cons_succ]
        refine wpAnyH_take (i := 5) (oi := ⟨some 24, Op.move (Operand.tmp 0), 23, _, _, none⟩) (v := .slice va l.length vc) rfl (by kernel_rfl) (by kernel_rfl) (by kernel_rfl) (fun _ _ _ h => h) (Or.inl ⟨by rfl, fun w hS => by obtain ⟨hs1, hs2, hs3⟩ := hS; go_simp⟩) hHeld ?_
        simp only [Act.put, List.setIfInBounds_toArray, List.set_cons_zero, List.set_cons_succ]
        refine wpAnyH_take (i := 6) (oi := ⟨some 25, Op.move (Operand.tmp 5), 3, _, _, none⟩) (v := .int .i64 (t : Int)) rfl (by kernel_rfl) (by kernel_rfl) (by kernel_rfl) (fun _ _ _ h => h) (Or.inl ⟨by rfl, fun w hS => by obtain ⟨hs1, hs2, hs3⟩ := hS; go_simp⟩) hHeld ?_
        simp only [Act.put, List.setIfInBounds_toArray, List.set_cons_zero, List.set_cons_succ]
        refine wpAnyH_take (i := 7) (oi := ⟨some 26, Op.slice 23 (Operand.tmp 24) none (some (Operand.tmp 25)) none, 23, _, _, none⟩) (v := .slice va t vc) rfl (by kernel_rfl) (by kernel_rfl) (by kernel_rfl) (fun _ _ _ h => h) (yieldsIf_slice (by rfl) 23 (Operand.tmp 24) (Operand.tmp 25) rfl (.slice va l.length vc) (.int .i64 (t : Int)) (.slice va t vc) rfl rfl (sl_run23 _ _ _ t Htk.out.1)) hHeld ?_
        simp only [Act.put, List.setIfInBounds_toArray, List.set_cons_zero, List.set_cons_succ]
        refine wpAnyH_ready (rs := [8]) (by kernel_rfl) (by simp) ?_
        refine AllReadyH.cons (o := ⟨some 27, Op.call { callee := Callee.value (Operand.func 35), args := #[Operand.tmp 19, Operand.tmp 23, Operand.tmp 26], argTypes := #[33, 72, 23] }, 24, _, _, none⟩) rfl (fun K hK => ?_) AllReadyH.nil
        rw [if_pos (by rfl)]
        refine wp_callF 35 _ _ rfl Try.in35 #[.agg (opA x), vF, .slice va t vc] (by simp [Act.eval, rng_load]) (fun vz wz => vz = .int .i64 (wrongV (l.take t) x) ∧ Below wq.heap.size wq wz) ?_ ?_
        · refine (wrong_any x vF _ (l.take t) wq.drew (HvF.out.below hD0) Hx.out (Htk.out.2.below (HG.out.trans (hD0.mono HG.out.size))) (by have := Hlb.out; rw [List.length_take]; omega)).mono ?_
          rintro e wz ⟨rfl, h⟩
          exact ⟨_, rfl, rfl, hD0.trans (h.mono hD0.size)⟩
        rintro vz w7 ⟨rfl, h7⟩
        have HB7 := Keep.mk h7
        clear h7
        refine hK.out _ _ (HS0.out _ HB7.out) fun hHeld2 => ?_
        clear hK
        simp only [Act.put, List.setIfInBounds_toArray, List.set_cons_zero, List.set_cons_succ]
        refine wpAnyH_take (i := 9) (oi := ⟨some 7, Op.assign (Operand.tmp 27), 24, _, _, none⟩) (v := .int .i64 (wrongV (l.take t) x)) rfl (by kernel_rfl) (by kernel_rfl) (by kernel_rfl) (fun _ _ _ h => h) (Or.inl ⟨by rfl, fun w hS => by obtain ⟨hs1, hs2, hs3⟩ := hS; go_simp⟩) hHeld2 ?_
        simp only [Act.put, List.setIfInBounds_toArray, List.set_cons_zero, List.set_cons_succ]
        refine wpAnyH_done (by kernel_rfl) ?_ _
        refine hK17 _ _ ?_
        refine wp_seq_k fun K18 hK18 => ?_
        refine wp_region_list (WL.out ?_)
        refine WL.val (by kernel_rfl) (.int .i64 (wrongV (l.take t) x)) (by go_simp) ?_
        simp only [Act.put, List.setIfInBounds_toArray, List.set_cons_zero, List.set_cons_succ]
        refine WL.val (by kernel_rfl) (.bool true) (by go_simp) ?_
        simp only [Act.put, List.setIfInBounds_toArray, List.set_cons_zero, List.set_cons_succ]
        refine WL.nil ?_
        refine hK18 _ _ ?_
        refine wp_cond_true rfl ?_
        refine wp_seq_k fun K19 hK19 => ?_
        refine wp_region_list (WL.out ?_)
        refine WL.val (by kernel_rfl) (.int .i64 (wrongV (l.take t) x)) (by go_simp) ?_
        simp only [Act.put, List.setIfInBounds_toArray, List.set_cons_zero, List.set_cons_succ]
        refine WL.val (by kernel_rfl) (.int .i64 (t : Int)) (by go_simp) ?_
        simp only [Act.put, List.setIfInBounds_toArray, List.set_cons_zero, List.set_cons_succ]
        refine WL.val (by kernel_rfl) (.int .i64 (wrongV (l.take t) x)) (by go_simp) ?_
        simp only [Act.put, List.setIfInBounds_toArray, List.set_cons_zero, List.set_cons_succ]
        refine WL.val (by kernel_rfl) (.int .i64 (t : Int)) (by go_simp) ?_
        simp only [Act.put, List.setIfInBounds_toArray, List.set_cons_zero, List.set_cons_succ]
        refine WL.nil ?_
        refine hK19 _ _ ?_
        refine wp_ret ?_
        rw [if_neg hW] at Hst
        go_ret2
        exact ⟨by rw [HR.out, hC, Hst.out]; rfl, HBl.out.trans ((HG.out.trans (HB7.out.mono HG.out.size)).mono HBl.out.size)⟩
    · obtain rfl : t = l.length := by omega
      have htl' : ¬ (l.length : Int) < (l.length : Int) := by omega
      refine wp_seq_k fun K20 hK20 => ?_
      refine wp_region_list (WL.out ?_)
      refine WL.val (by kernel_rfl) (.bool false) (by go_simp) ?_
      simp only [Act.put, List.setIfInBounds_toArray, List.set_cons_zero, List.set_cons_succ]
      refine WL.nil ?_
      refine hK20 _ _ ?_
      refine wp_seq_k fun K21 hK21 => ?_
      refine wp_cond_false rfl ?_
      refine wp_exit ?_
      refine hK5 _ _ ?_
      refine wp_seq_k fun K22 hK22 => ?_
      refine wp_region_list (WL.out ?_)
      refine WL.val (by kernel_rfl) (.int .i64 0) (by go_simp) ?_
      simp only [Act.put, List.setIfInBounds_toArray, List.set_cons_zero, List.set_cons_succ]
      refine WL.val (by kernel_rfl) (.int .i64 0) (by go_simp) ?_
      simp only [Act.put, List.setIfInBounds_toArray, List.set_cons_zero, List.set_cons_succ]
      refine WL.nil ?_
      refine hK22 _ _ ?_
      refine wp_ret ?_
      go_ret2
      exact ⟨by rw [HR.out, hC, List.drop_length]; rfl, hB⟩

end Go.Proofs.Ytbkboebinhafhaa
