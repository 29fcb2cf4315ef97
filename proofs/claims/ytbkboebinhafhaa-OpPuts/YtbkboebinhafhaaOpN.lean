import Derived.Test.YtbkboebinhafhaaOpM
namespace Go.Proofs.Ytbkboebinhafhaa
open Go.RowKit
set_option linter.unusedSimpArgs false

theorem WL.app {ops : Array Oper} {rest : List Oper} {o : Oper} {a : Act} {w : World} {Q : Exit → Act → World → Prop} (hw : Region.wanted o (yielded ops a.tmps) = true) (s x : Operand)
    (ho : o.op = .call { callee := .builtin .append, args := #[s, x], argTypes := #[36, 36] }) (v vx : Value) (l m : List Int)
    (hs : a.eval s = v) (hx : a.eval x = vx) (hown : Own w v l) (hrow : RowAt w vx m) (hb : l.length + m.length ≤ 200000000000000)
    (h : ∀ v' w', AppPost w v (l ++ m) v' w' → WL Try.prog ops Q rest (a.put o.dst v') w') : WL Try.prog ops Q (o :: rest) a w :=
  ⟨wpList_wanted hw fun K hK => by
    obtain ⟨v', w', hr, h2⟩ := run_app_row w o.type v vx l m hown hrow hb
    unfold Oper.wp execOp
    simp only [ho, resolve, invoke, builtin, Sem.run_bind, Sem.run_pure, Result.andThen_ok, List.map_toArray, List.map_cons, List.map_nil, hs, hx, hr]
    exact hK _ _ (h v' w' h2).out⟩
/-- A string's bytes as a new slice. -/
theorem WL.bytes {ops : Array Oper} {rest : List Oper} {o : Oper} {a : Act} {w : World} {Q : Exit → Act → World → Prop} (hw : Region.wanted o (yielded ops a.tmps) = true) (x : Operand) (ho : o.op = .convert 9 36 x) (s : ByteArray) (hx : a.eval x = .string s) (hb : s.size ≤ 140737488355328)
    (h : ∀ v w', OwnT w' v (lst s) → v.ownBlock = some w.heap.size → Below w.heap.size w w' → WL Try.prog ops Q rest (a.put o.dst v) w') : WL Try.prog ops Q (o :: rest) a w := by
  obtain ⟨v, w', h1, h2, h3, h4⟩ := conv_bytes w s hb
  refine WL.valW hw v w' ?_ (h v w' h2 h3 h4)
  unfold execOp
  simp only [ho, hx, Sem.run_bind, h1, Result.andThen_ok]
  rfl
/-- Bytes laid behind others, so far. -/
structure LS (w0 : World) (v0 : Value) (L : List Int) (u : Value) (w : World) : Prop where
  own : Own w u L
  mv : Moved w0 v0 u
  gr : Grown w0 w fun k => v0.ownBlock = some k
theorem LS.step {w0 : World} {v0 : Value} {L L' : List Int} {u u' : Value} {w w' : World} (h : LS w0 v0 L u w) (h1 : Own w' u' L') (h2 : Moved w u u') (h3 : Grown w w' fun k => u.ownBlock = some k) : LS w0 v0 L' u' w' :=
  ⟨h1, h.mv.trans h.gr.size h2, h.gr.next h3 fun _ hk ho => h.mv.old hk ho⟩
theorem LS.below {w0 : World} {v0 : Value} {L : List Int} {u : Value} {w w' : World} (h : LS w0 v0 L u w) (hb : Below w.heap.size w w') : LS w0 v0 L u w' :=
  ⟨h.own.grown (Grown.below (S := fun _ => False) hb) (fun _ _ h => h), h.mv, h.gr.next (Grown.below hb (S := fun _ => False)) (fun _ _ h => h.elim)⟩
theorem own_keeps {w w' : World} {u : Value} {L : List Int} (h : Own w u L) {g : Nat} {T : TypeId} {cs : Array Value} (hb : Blk w g T cs) (hT : T ≠ 5) (h3 : Grown w w' fun k => u.ownBlock = some k) : Blk w' g T cs := h3.blk hb fun e => h.ne hb hT e
theorem bsB (c : Int) (w : World) : (Instr.buildSlice 36 1 #[(0, .int .u8 c)]).run Try.prog w = .ok (.slice (some ⟨w.heap.size, 0, none⟩) 1 1) (w.alloc (.cells #[.int .u8 c] 5)) := by kernel_rfl
def tl (x : OpV) : List Int := (if txt x.kind = true then bform (lst x.text) else []) ++ ((if x.kind = 6 then numL (zig x.n) else []) ++ (if hat x.kind = true then numL x.op.toNat ++ (if x.op = 0 then [] else hl 32 (hof x.node)) else []))
theorem oneF_eq (x : OpV) (h : hasI x.kind ≠ []) : oneF x = [x.kind] ++ (bform (lst x.key) ++ tl x) := by
  have hk := hasI_mem h
  simp only [List.mem_cons, List.not_mem_nil, or_false] at hk
  rcases hk with e | e | e | e | e | e | e | e | e <;> simp [oneF, tl, e, hasI, putF, txt, hat]
set_option maxRecDepth 8000 in
set_option maxHeartbeats 4000000 in
theorem rput_any (v : Value) (L0 : List Int) (vl : Value) (l : List OpV) (w : World) (h : Own w v L0) (hl : OpsAt w vl l) (hok : ∀ x ∈ l, OpOk x)
    (hsep : ∀ k, vl.ownBlock = some k → v.ownBlock ≠ some k) (hC : (chk l).1 = 0) (hbb : L0.length + (formL l).length ≤ 200000000000000) :
    Calls Try.prog 19 #[v, vl] w (LayPost v (L0 ++ formL l) w) := by
  obtain ⟨va, vc, rfl⟩ := hl.form
  have HO := Keep.mk h
  have HL := Keep.mk hl
  have Hok := Keep.mk hok
  have Hsep := Keep.mk hsep
  have Hbb := Keep.mk hbb
  have Hok2 := Keep.mk (chk_ok hC)
  have Hlb : Keep (l.length ≤ 4398046511104) := ⟨by have := Hok2.out.1; omega⟩
  have hb' : (l.length : Int) ≤ 9223372036854775807 := by have := Hlb.out; omega
  have hwl : IntKind.u64.wrap (l.length : Int) = (l.length : Int) := by rw [IntKind.wrap_u64]; have := Hlb.out; omega
  clear h hl hok hsep hbb hC
  go_enter Try.func19, Try.ntmps19
  refine wp_seq_k fun K1 hK1 => ?_
  refine wp_region_list (WL.out ?_)
  refine WL.val (by kernel_rfl) (.slice none 0 0) (by go_simp) ?_
  simp only [Act.put, List.setIfInBounds_toArray, List.set_cons_zero, List.set_cons_succ]
  refine WL.nil ?_
  refine hK1 _ _ ?_
  refine wp_seq_k fun K2 hK2 => ?_
  refine wp_region_list (WL.out ?_)
  refine WL.val (by kernel_rfl) (v) (by go_simp) ?_
  simp only [Act.put, List.setIfInBounds_toArray, List.set_cons_zero, List.set_cons_succ]
  refine WL.val (by kernel_rfl) (.slice va l.length vc) (by go_simp) ?_
  simp only [Act.put, List.setIfInBounds_toArray, List.set_cons_zero, List.set_cons_succ]
  refine WL.val (by kernel_rfl) (.int .i64 (l.length : Int)) (by go_simp) ?_
  simp only [Act.put, List.setIfInBounds_toArray, List.set_cons_zero, List.set_cons_succ]
  refine WL.val (by kernel_rfl) (.int .u64 (l.length : Int)) (by go_simp) ?_
  simp only [Act.put, List.setIfInBounds_toArray, List.set_cons_zero, List.set_cons_succ]
  refine WL.callF (by kernel_rfl) 38 _ _ rfl Try.in38 #[v, .int .u64 (l.length : Int)] (by simp [Act.eval]) ?_
  refine (rnum_any v L0 l.length w HO.out (by have := Hlb.out; omega) (by have := Hbb.out; unfold formL at this; rw [List.length_append] at this; omega)).mono ?_
  rintro e w1 hp
  obtain ⟨v1, rfl, hq1, hq2, hq3⟩ := hp
  refine ⟨_, rfl, ?_⟩
  have HS1 : Keep (LS w v (L0 ++ numL l.length) v1 w1) := ⟨⟨hq1, hq2, hq3⟩⟩
  clear hq1 hq2 hq3
  simp only [Act.put, List.setIfInBounds_toArray, List.set_cons_zero, List.set_cons_succ]
  refine WL.val (by kernel_rfl) (v1) (by go_simp) ?_
  simp only [Act.put, List.setIfInBounds_toArray, List.set_cons_zero, List.set_cons_succ]
  refine WL.nil ?_
  refine hK2 _ _ ?_
  refine wp_seq_k fun K3 hK3 => ?_
  refine wp_seq_k fun K4 hK4 => ?_
  refine wp_region_list (WL.out ?_)
  refine WL.val (by kernel_rfl) (.int .i64 0) (by go_simp) ?_
  simp only [Act.put, List.setIfInBounds_toArray, List.set_cons_zero, List.set_cons_succ]
  refine WL.nil ?_
  refine hK4 _ _ ?_
  refine wp_block ?_
  refine wp_loop (fun a wr => ∃ (t : Nat) (u0 u6 u7 u8 u14 u15 u16 u17 u18 u19 u20 u21 u22 u23 u24 u25 u26 u27 u28 u29 u30 u31 u32 u33 u34 u35 u36 u37 u38 u39 u40 u41 u42 u43 u44 u45 u46 u47 u48 u49 u50 u51 u52 u53 u54 u55 u56 u57 u58 u59 u60 u61 u62 u63 u64 u65 u66 u67 u68 u69 u70 : Value), a = { tmps := #[u0, .slice va l.length vc, undef, undef, .slice none 0 0, .int .i64 (t : Int), u6, u7, u8, v, .slice va l.length vc, .int .i64 (l.length : Int), .int .u64 (l.length : Int), v1, u14, u15, u16, u17, u18, u19, u20, u21, u22, u23, u24, u25, u26, u27, u28, u29, u30, u31, u32, u33, u34, u35, u36, u37, u38, u39, u40, u41, u42, u43, u44, u45, u46, u47, u48, u49, u50, u51, u52, u53, u54, u55, u56, u57, u58, u59, u60, u61, u62, u63, u64, u65, u66, u67, u68, u69, u70, undef], defers := [] } ∧ t ≤ l.length ∧ LS w v (L0 ++ numL l.length ++ (l.take t).flatMap oneF) u0 wr) (fun a _ => l.length - (intOf (a.tmps.getD 5 undef)).toNat) ⟨0, v1, undef, undef, undef, undef, undef, undef, undef, undef, undef, undef, undef, undef, undef, undef, undef, undef, undef, undef, undef, undef, undef, undef, undef, undef, undef, undef, undef, undef, undef, undef, undef, undef, undef, undef, undef, undef, undef, undef, undef, undef, undef, undef, undef, undef, undef, undef, undef, undef, undef, undef, undef, undef, undef, undef, undef, undef, undef, undef, undef, undef, rfl, by omega, by rw [List.take_zero, List.flatMap_nil, List.append_nil]; exact HS1.out⟩ ?_
  rintro a wr ⟨t, u0, u6, u7, u8, u14, u15, u16, u17, u18, u19, u20, u21, u22, u23, u24, u25, u26, u27, u28, u29, u30, u31, u32, u33, u34, u35, u36, u37, u38, u39, u40, u41, u42, u43, u44, u45, u46, u47, u48, u49, u50, u51, u52, u53, u54, u55, u56, u57, u58, u59, u60, u61, u62, u63, u64, u65, u66, u67, u68, u69, u70, rfl, ht, hS⟩
  by_cases htl : t < l.length
  · have htl' : (t : Int) < (l.length : Int) := by omega
    have hLr := HL.out.grown hS.gr (fun b hb _ => Hsep.out b hb)
    obtain ⟨gL, ofL, hva, hr⟩ := hLr.at htl
    have hgx : l[t]? = some (l.getD t zeroOp) := by simp [List.getD_eq_getElem?_getD, htl]
    have hwx := wrongV_ok (Hok2.out.2 t _ hgx)
    have hmem : l.getD t zeroOp ∈ l := List.mem_of_getElem? hgx
    have Hx := Keep.mk (Hok.out _ hmem)
    have hnx := fm_next oneF l t htl zeroOp
    have hln := fm_len oneF l (t + 1)
    generalize l.getD t zeroOp = x at *
    have hkr := hasI_rng hwx.1
    have hwk : IntKind.u8.wrap x.kind = x.kind := by rw [IntKind.wrap_u8]; omega
    have HHat : Keep (hat x.kind = true → 0 ≤ x.op ∧ x.op ≤ 1024) := ⟨fun h => mayAt_op (by rw [List.length_take]; have := Hok2.out.1; omega) (hwx.2.2.2.2 ((hat_eq x hwx.1).mpr h))⟩
    have hone := oneF_eq x hwx.1
    have hwr1 : IntKind.i64.wrap ((t : Int) + 1) = (t : Int) + 1 := by rw [IntKind.wrap_i64]; have := Hlb.out; omega
    obtain ⟨L1, hL1⟩ : ∃ L1, Keep (L1 = L0 ++ numL l.length ++ (l.take t).flatMap oneF) := ⟨_, ⟨rfl⟩⟩
    rw [← hL1.out] at hS
    have HFull : Keep (L0 ++ numL l.length ++ (l.take (t + 1)).flatMap oneF = L1 ++ [x.kind] ++ bform (lst x.key) ++ tl x) := ⟨by rw [hnx, hone, hL1.out]; simp⟩
    have Hbd : Keep ((L1 ++ [x.kind] ++ bform (lst x.key) ++ tl x).length ≤ 200000000000000) := ⟨by
      rw [← HFull.out, List.length_append, List.length_append]
      have := Hbb.out
      unfold formL at this
      rw [List.length_append] at this
      omega⟩
    have HS := Keep.mk hS
    clear hS hLr hgx hwx hmem hnx hln hkr hone
    refine wp_seq_k fun K5 hK5 => ?_
    refine wp_seq_k fun K6 hK6 => ?_
    refine wp_region_list (WL.out ?_)
    refine WL.val (by kernel_rfl) (.int .i64 (t : Int)) (by go_simp) ?_
    simp only [Act.put, List.setIfInBounds_toArray, List.set_cons_zero, List.set_cons_succ]
    refine WL.val (by kernel_rfl) (.slice va l.length vc) (by go_simp) ?_
    simp only [Act.put, List.setIfInBounds_toArray, List.set_cons_zero, List.set_cons_succ]
    refine WL.val (by kernel_rfl) (.int .i64 (l.length : Int)) (by go_simp) ?_
    simp only [Act.put, List.setIfInBounds_toArray, List.set_cons_zero, List.set_cons_succ]
    refine WL.val (by kernel_rfl) (.bool true) (by go_simp) ?_
    simp only [Act.put, List.setIfInBounds_toArray, List.set_cons_zero, List.set_cons_succ]
    refine WL.nil ?_
    refine hK6 _ _ ?_
    refine wp_cond_true rfl ?_
    refine wp_skip ?_
    refine hK5 _ _ ?_
    refine wp_seq_k fun K7 hK7 => ?_
    refine wp_block ?_
    refine wp_seq_k fun K8 hK8 => ?_
    refine wp_region_list (WL.out ?_)
    refine WL.val (by kernel_rfl) (.slice va l.length vc) (by go_simp) ?_
    simp only [Act.put, List.setIfInBounds_toArray, List.set_cons_zero, List.set_cons_succ]
    refine WL.val (by kernel_rfl) (.int .i64 (t : Int)) (by go_simp) ?_
    simp only [Act.put, List.setIfInBounds_toArray, List.set_cons_zero, List.set_cons_succ]
    refine WL.val (by kernel_rfl) (.pointer (some ⟨gL, ofL + t * 37, none⟩)) (by go_simp) ?_
    simp only [Act.put, List.setIfInBounds_toArray, List.set_cons_zero, List.set_cons_succ]
    refine WL.mid (by kernel_rfl) 33 (.tmp 22) rfl gL (ofL + t * 37) rfl (opL x) _ hr Try.underlying33 rfl (Try.size33L x) ?_
    rw [rng_load]
    simp only [Act.put, List.setIfInBounds_toArray, List.set_cons_zero, List.set_cons_succ]
    refine WL.new (by kernel_rfl) 33 rfl _ Try.new33 ?_
    simp only [Act.put, List.setIfInBounds_toArray, List.set_cons_zero, List.set_cons_succ]
    refine WL.storeR (by kernel_rfl) 33 (.tmp 6) (.tmp 23) rfl wr.heap.size (opA x) rfl rfl 33 (opA zeroOp) (Blk.new wr 33 _) (Try.size33B x) (opA_sizes _ _) (opA_one x) ?_
    have X0 := Keep.mk ((Blk.new wr 33 (opA zeroOp)).setRow (opA x))
    have HGr : Keep (Below wr.heap.size wr ((wr.alloc (.cells (opA zeroOp) 33)).setRow wr.heap.size (opA x))) := ⟨below_setRow (below_new wr _) (Nat.le_refl _) _⟩
    generalize (wr.alloc (.cells (opA zeroOp) 33)).setRow wr.heap.size (opA x) = w_0 at *
    obtain ⟨gx, hgx⟩ : ∃ gx, Keep (gx = wr.heap.size) := ⟨_, ⟨rfl⟩⟩
    rw [← hgx.out] at X0 ⊢
    have H0 := Keep.mk (HS.out.below HGr.out)
    have c0_0 := X0.out.c 0 (opA_0 x)
    have c0_1 := X0.out.c 1 (opA_1 x)
    have c0_2 := X0.out.c 2 (opA_2 x)
    have c0_3 := X0.out.c 3 (opA_3 x)
    have c0_36 := X0.out.c 36 (opA_36 x)
    simp only [Act.put]
    refine WL.nil ?_
    refine hK8 _ _ ?_
    refine wp_seq_k fun K9 hK9 => ?_
    refine wp_region_list (WL.out ?_)
    refine WL.val (by kernel_rfl) (u0) (by go_simp) ?_
    simp only [Act.put, List.setIfInBounds_toArray, List.set_cons_zero, List.set_cons_succ]
    refine WL.val (by kernel_rfl) (.pointer (some ⟨gx, 0, none⟩)) (by go_simp) ?_
    simp only [Act.put, List.setIfInBounds_toArray, List.set_cons_zero, List.set_cons_succ]
    refine WL.val (by kernel_rfl) (.int .i64 x.kind) (by go_simp) ?_
    simp only [Act.put, List.setIfInBounds_toArray, List.set_cons_zero, List.set_cons_succ]
    refine WL.val (by kernel_rfl) (.int .u8 x.kind) (by go_simp) ?_
    simp only [Act.put, List.setIfInBounds_toArray, List.set_cons_zero, List.set_cons_succ]
    refine WL.bs (by kernel_rfl) 36 1 _ rfl #[(0, .int .u8 x.kind)] (by simp [Act.eval]) _ _ (bsB x.kind w_0) ?_
    simp only [Act.put, List.setIfInBounds_toArray, List.set_cons_zero, List.set_cons_succ]
    refine WL.app (by kernel_rfl) (.tmp 24) (.tmp 28) rfl u0 (.slice (some ⟨w_0.heap.size, 0, none⟩) 1 1) L1 [x.kind] rfl rfl (H0.out.own.box _) (row_one w_0 x.kind) (by have := Hbd.out; simp only [List.length_append, List.length_cons, List.length_nil] at this ⊢; omega) ?_
    intro u_1 w_1 hap
    obtain ⟨hq1, hq2, hq3⟩ := hap.box
    have H1 := Keep.mk (H0.out.step hq1 hq2 hq3)
    have X1 := Keep.mk (own_keeps H0.out.own X0.out (by decide) hq3)
    clear hq1 hq2 hq3 hap
    clear c0_0 c0_1 c0_2 c0_3 c0_36
    have c1_0 := X1.out.c 0 (opA_0 x)
    have c1_1 := X1.out.c 1 (opA_1 x)
    have c1_2 := X1.out.c 2 (opA_2 x)
    have c1_3 := X1.out.c 3 (opA_3 x)
    have c1_36 := X1.out.c 36 (opA_36 x)
    simp only [Act.put, List.setIfInBounds_toArray, List.set_cons_zero, List.set_cons_succ]
    refine WL.val (by kernel_rfl) (u_1) (by go_simp) ?_
    simp only [Act.put, List.setIfInBounds_toArray, List.set_cons_zero, List.set_cons_succ]
    refine WL.nil ?_
    refine hK9 _ _ ?_
    refine wp_seq_k fun K10 hK10 => ?_
    refine wp_region_list (WL.out ?_)
    refine WL.val (by kernel_rfl) (u_1) (by go_simp) ?_
    simp only [Act.put, List.setIfInBounds_toArray, List.set_cons_zero, List.set_cons_succ]
    refine WL.val (by kernel_rfl) (.pointer (some ⟨gx, 1, none⟩)) (by go_simp) ?_
    simp only [Act.put, List.setIfInBounds_toArray, List.set_cons_zero, List.set_cons_succ]
    refine WL.val (by kernel_rfl) (.string x.key) (by go_simp) ?_
    simp only [Act.put, List.setIfInBounds_toArray, List.set_cons_zero, List.set_cons_succ]
    refine WL.bytes (by kernel_rfl) (.tmp 32) rfl x.key rfl Hx.out.key ?_
    intro vb2 w_2 hb1 hb2 hb3
    have R2 := Keep.mk hb1
    have S2 : Keep (∀ k, vb2.ownBlock = some k → u_1.ownBlock ≠ some k) := ⟨fun k hk ho => by rw [hb2] at hk; injection hk with hk; have := H1.out.own.lt k ho; omega⟩
    have H2 := Keep.mk (H1.out.below hb3)
    have X2 := Keep.mk (X1.out.below hb3 X1.out.lt)
    clear hb1 hb2 hb3
    clear c1_0 c1_1 c1_2 c1_3 c1_36
    have c2_0 := X2.out.c 0 (opA_0 x)
    have c2_1 := X2.out.c 1 (opA_1 x)
    have c2_2 := X2.out.c 2 (opA_2 x)
    have c2_3 := X2.out.c 3 (opA_3 x)
    have c2_36 := X2.out.c 36 (opA_36 x)
    simp only [Act.put, List.setIfInBounds_toArray, List.set_cons_zero, List.set_cons_succ]
    refine WL.callF (by kernel_rfl) 39 _ _ rfl Try.in39 #[u_1, vb2] (by simp [Act.eval]) ?_
    refine (rbytes_any u_1 vb2 (L1 ++ [x.kind]) (lst x.key) w_2 H2.out.own R2.out.row S2.out (by have := Hbd.out; simp only [List.length_append, List.length_cons, List.length_nil] at this ⊢; omega)).mono ?_
    rintro e w_3 hp
    obtain ⟨u_3, rfl, hq1, hq2, hq3⟩ := hp
    refine ⟨_, rfl, ?_⟩
    have H3 := Keep.mk (H2.out.step hq1 hq2 hq3)
    have X3 := Keep.mk (own_keeps H2.out.own X2.out (by decide) hq3)
    clear hq1 hq2 hq3
    clear c2_0 c2_1 c2_2 c2_3 c2_36
    have c3_0 := X3.out.c 0 (opA_0 x)
    have c3_1 := X3.out.c 1 (opA_1 x)
    have c3_2 := X3.out.c 2 (opA_2 x)
    have c3_3 := X3.out.c 3 (opA_3 x)
    have c3_36 := X3.out.c 36 (opA_36 x)
    simp only [Act.put, List.setIfInBounds_toArray, List.set_cons_zero, List.set_cons_succ]
    refine WL.val (by kernel_rfl) (u_3) (by go_simp) ?_
    simp only [Act.put, List.setIfInBounds_toArray, List.set_cons_zero, List.set_cons_succ]
    refine WL.nil ?_
    refine hK10 _ _ ?_
    refine wp_seq_k fun K11 hK11 => ?_
    refine wp_region_list (WL.out ?_)
    refine WL.val (by kernel_rfl) (.pointer (some ⟨gx, 0, none⟩)) (by go_simp) ?_
    simp only [Act.put, List.setIfInBounds_toArray, List.set_cons_zero, List.set_cons_succ]
    refine WL.val (by kernel_rfl) (.int .i64 x.kind) (by go_simp) ?_
    simp only [Act.put, List.setIfInBounds_toArray, List.set_cons_zero, List.set_cons_succ]
    refine WL.callF (by kernel_rfl) 40 _ _ rfl Try.in40 #[.int .i64 x.kind] (by simp [Act.eval]) ?_
    refine (hasText_any x.kind w_3).mono ?_
    rintro e w_y ⟨rfl, hwy⟩
    rw [hwy]
    clear hwy w_y
    refine ⟨_, rfl, ?_⟩
    simp only [Act.put, List.setIfInBounds_toArray, List.set_cons_zero, List.set_cons_succ]
    refine WL.val (by kernel_rfl) (.bool (txt x.kind)) (by go_simp) ?_
    simp only [Act.put, List.setIfInBounds_toArray, List.set_cons_zero, List.set_cons_succ]
    refine WL.nil ?_
    refine hK11 _ _ ?_
    refine wp_seq_k fun K12 hK12 => ?_
    refine wp_seq_k fun K13 hK13 => ?_
    refine wp_region_list (WL.out ?_)
    rcases Bool.eq_false_or_eq_true (txt x.kind) with h9_0 | h9_0
    · have q38 := h9_0
      rw [h9_0]
      refine WL.val (by kernel_rfl) (.bool true) (by go_simp) ?_
      simp only [Act.put, List.setIfInBounds_toArray, List.set_cons_zero, List.set_cons_succ]
      refine WL.nil ?_
      refine hK13 _ _ ?_
      refine wp_cond_true rfl ?_
      refine wp_region_list (WL.out ?_)
      refine WL.val (by kernel_rfl) (u_3) (by go_simp) ?_
      simp only [Act.put, List.setIfInBounds_toArray, List.set_cons_zero, List.set_cons_succ]
      refine WL.val (by kernel_rfl) (.pointer (some ⟨gx, 2, none⟩)) (by go_simp) ?_
      simp only [Act.put, List.setIfInBounds_toArray, List.set_cons_zero, List.set_cons_succ]
      refine WL.val (by kernel_rfl) (.string x.text) (by go_simp) ?_
      simp only [Act.put, List.setIfInBounds_toArray, List.set_cons_zero, List.set_cons_succ]
      refine WL.bytes (by kernel_rfl) (.tmp 41) rfl x.text rfl Hx.out.text ?_
      intro vb4 w_4 hb1 hb2 hb3
      have R4 := Keep.mk hb1
      have S4 : Keep (∀ k, vb4.ownBlock = some k → u_3.ownBlock ≠ some k) := ⟨fun k hk ho => by rw [hb2] at hk; injection hk with hk; have := H3.out.own.lt k ho; omega⟩
      have H4 := Keep.mk (H3.out.below hb3)
      have X4 := Keep.mk (X3.out.below hb3 X3.out.lt)
      clear hb1 hb2 hb3
      clear c3_0 c3_1 c3_2 c3_3 c3_36
      have c4_0 := X4.out.c 0 (opA_0 x)
      have c4_1 := X4.out.c 1 (opA_1 x)
      have c4_2 := X4.out.c 2 (opA_2 x)
      have c4_3 := X4.out.c 3 (opA_3 x)
      have c4_36 := X4.out.c 36 (opA_36 x)
      simp only [Act.put, List.setIfInBounds_toArray, List.set_cons_zero, List.set_cons_succ]
      refine WL.callF (by kernel_rfl) 39 _ _ rfl Try.in39 #[u_3, vb4] (by simp [Act.eval]) ?_
      refine (rbytes_any u_3 vb4 (L1 ++ [x.kind] ++ bform (lst x.key)) (lst x.text) w_4 H4.out.own R4.out.row S4.out (by have := Hbd.out; unfold tl at this; rw [if_pos q38] at this; simp only [List.length_append, List.length_cons, List.length_nil] at this ⊢; omega)).mono ?_
      rintro e w_5 hp
      obtain ⟨u_5, rfl, hq1, hq2, hq3⟩ := hp
      refine ⟨_, rfl, ?_⟩
      have H5 := Keep.mk (H4.out.step hq1 hq2 hq3)
      have X5 := Keep.mk (own_keeps H4.out.own X4.out (by decide) hq3)
      clear hq1 hq2 hq3
      clear c4_0 c4_1 c4_2 c4_3 c4_36
      have c5_0 := X5.out.c 0 (opA_0 x)
      have c5_1 := X5.out.c 1 (opA_1 x)
      have c5_2 := X5.out.c 2 (opA_2 x)
      have c5_3 := X5.out.c 3 (opA_3 x)
      have c5_36 := X5.out.c 36 (opA_36 x)
      simp only [Act.put, List.setIfInBounds_toArray, List.set_cons_zero, List.set_cons_succ]
      refine WL.val (by kernel_rfl) (u_5) (by go_simp) ?_
      simp only [Act.put, List.setIfInBounds_toArray, List.set_cons_zero, List.set_cons_succ]
      refine WL.nil ?_
      refine hK12 _ _ ?_
      refine wp_seq_k fun K14 hK14 => ?_
      refine wp_seq_k fun K15 hK15 => ?_
      refine wp_region_list (WL.out ?_)
      refine WL.val (by kernel_rfl) (.pointer (some ⟨gx, 0, none⟩)) (by go_simp) ?_
      simp only [Act.put, List.setIfInBounds_toArray, List.set_cons_zero, List.set_cons_succ]
      refine WL.val (by kernel_rfl) (.int .i64 x.kind) (by go_simp) ?_
      simp only [Act.put, List.setIfInBounds_toArray, List.set_cons_zero, List.set_cons_succ]
      by_cases h11_2 : x.kind = 6
      · skip
        refine WL.val (by kernel_rfl) (.bool true) (by go_simp) ?_
        simp only [Act.put, List.setIfInBounds_toArray, List.set_cons_zero, List.set_cons_succ]
        refine WL.nil ?_
        refine hK15 _ _ ?_
        refine wp_cond_true rfl ?_
        refine wp_region_list (WL.out ?_)
        refine WL.val (by kernel_rfl) (u_5) (by go_simp) ?_
        simp only [Act.put, List.setIfInBounds_toArray, List.set_cons_zero, List.set_cons_succ]
        refine WL.val (by kernel_rfl) (.pointer (some ⟨gx, 3, none⟩)) (by go_simp) ?_
        simp only [Act.put, List.setIfInBounds_toArray, List.set_cons_zero, List.set_cons_succ]
        refine WL.val (by kernel_rfl) (.int .i64 x.n) (by go_simp) ?_
        simp only [Act.put, List.setIfInBounds_toArray, List.set_cons_zero, List.set_cons_succ]
        refine WL.callF (by kernel_rfl) 41 _ _ rfl Try.in41 #[.int .i64 x.n] (by simp [Act.eval]) ?_
        refine (rzig_any x.n w_5 Hx.out.n1 Hx.out.n2).mono ?_
        rintro e w_y ⟨rfl, hwy⟩
        rw [hwy]
        clear hwy w_y
        refine ⟨_, rfl, ?_⟩
        simp only [Act.put, List.setIfInBounds_toArray, List.set_cons_zero, List.set_cons_succ]
        refine WL.callF (by kernel_rfl) 38 _ _ rfl Try.in38 #[u_5, .int .u64 (zig x.n : Int)] (by simp [Act.eval]) ?_
        refine (rnum_any u_5 (L1 ++ [x.kind] ++ bform (lst x.key) ++ bform (lst x.text)) (zig x.n) w_5 H5.out.own (zig_lt _ Hx.out.n1 Hx.out.n2) (by have := Hbd.out; unfold tl at this; rw [if_pos q38, if_pos h11_2] at this; simp only [List.length_append, List.length_cons, List.length_nil] at this ⊢; omega)).mono ?_
        rintro e w_6 hp
        obtain ⟨u_6, rfl, hq1, hq2, hq3⟩ := hp
        refine ⟨_, rfl, ?_⟩
        have H6 := Keep.mk (H5.out.step hq1 hq2 hq3)
        have X6 := Keep.mk (own_keeps H5.out.own X5.out (by decide) hq3)
        clear hq1 hq2 hq3
        clear c5_0 c5_1 c5_2 c5_3 c5_36
        have c6_0 := X6.out.c 0 (opA_0 x)
        have c6_1 := X6.out.c 1 (opA_1 x)
        have c6_2 := X6.out.c 2 (opA_2 x)
        have c6_3 := X6.out.c 3 (opA_3 x)
        have c6_36 := X6.out.c 36 (opA_36 x)
        simp only [Act.put, List.setIfInBounds_toArray, List.set_cons_zero, List.set_cons_succ]
        refine WL.val (by kernel_rfl) (u_6) (by go_simp) ?_
        simp only [Act.put, List.setIfInBounds_toArray, List.set_cons_zero, List.set_cons_succ]
        refine WL.nil ?_
        refine hK14 _ _ ?_
        refine wp_seq_k fun K16 hK16 => ?_
        refine wp_region_list (WL.out ?_)
        refine WL.val (by kernel_rfl) (.pointer (some ⟨gx, 0, none⟩)) (by go_simp) ?_
        simp only [Act.put, List.setIfInBounds_toArray, List.set_cons_zero, List.set_cons_succ]
        refine WL.val (by kernel_rfl) (.int .i64 x.kind) (by go_simp) ?_
        simp only [Act.put, List.setIfInBounds_toArray, List.set_cons_zero, List.set_cons_succ]
        refine WL.callF (by kernel_rfl) 42 _ _ rfl Try.in42 #[.int .i64 x.kind] (by simp [Act.eval]) ?_
        refine (hasAt_any x.kind w_6).mono ?_
        rintro e w_y ⟨rfl, hwy⟩
        rw [hwy]
        clear hwy w_y
        refine ⟨_, rfl, ?_⟩
        simp only [Act.put, List.setIfInBounds_toArray, List.set_cons_zero, List.set_cons_succ]
        refine WL.val (by kernel_rfl) (.bool (hat x.kind)) (by go_simp) ?_
        simp only [Act.put, List.setIfInBounds_toArray, List.set_cons_zero, List.set_cons_succ]
        refine WL.nil ?_
        refine hK16 _ _ ?_
        refine wp_seq_k fun K17 hK17 => ?_
        refine wp_region_list (WL.out ?_)
        rcases Bool.eq_false_or_eq_true (hat x.kind) with h14_0 | h14_0
        · have q55 := h14_0
          rw [h14_0]
          refine WL.val (by kernel_rfl) (.bool true) (by go_simp) ?_
          simp only [Act.put, List.setIfInBounds_toArray, List.set_cons_zero, List.set_cons_succ]
          refine WL.nil ?_
          refine hK17 _ _ ?_
          refine wp_cond_true rfl ?_
          refine wp_seq_k fun K18 hK18 => ?_
          refine wp_region_list (WL.out ?_)
          refine WL.val (by kernel_rfl) (u_6) (by go_simp) ?_
          simp only [Act.put, List.setIfInBounds_toArray, List.set_cons_zero, List.set_cons_succ]
          refine WL.val (by kernel_rfl) (.pointer (some ⟨gx, 4, none⟩)) (by go_simp) ?_
          simp only [Act.put, List.setIfInBounds_toArray, List.set_cons_zero, List.set_cons_succ]
          refine WL.val (by kernel_rfl) (.pointer (some ⟨gx, 36, none⟩)) (by go_simp) ?_
          simp only [Act.put, List.setIfInBounds_toArray, List.set_cons_zero, List.set_cons_succ]
          refine WL.val (by kernel_rfl) (.int .i64 x.op) (by go_simp) ?_
          simp only [Act.put, List.setIfInBounds_toArray, List.set_cons_zero, List.set_cons_succ]
          obtain ⟨on, hon⟩ : ∃ on : Nat, Keep (x.op = (on : Int)) := ⟨x.op.toNat, ⟨by have := (HHat.out q55).1; omega⟩⟩
          have hwo : IntKind.u64.wrap x.op = (on : Int) := by rw [hon.out, IntKind.wrap_u64]; have := (HHat.out q55).2; have := hon.out; omega
          have Hon : Keep (x.op.toNat = on) := ⟨by rw [hon.out, Int.toNat_natCast]⟩
          refine WL.val (by kernel_rfl) (.int .u64 (on : Int)) (by go_simp) ?_
          simp only [Act.put, List.setIfInBounds_toArray, List.set_cons_zero, List.set_cons_succ]
          refine WL.callF (by kernel_rfl) 38 _ _ rfl Try.in38 #[u_6, .int .u64 (on : Int)] (by simp [Act.eval]) ?_
          refine (rnum_any u_6 (L1 ++ [x.kind] ++ bform (lst x.key) ++ bform (lst x.text) ++ numL (zig x.n)) on w_6 H6.out.own (by have := (HHat.out q55).2; have := hon.out; omega) (by have := Hbd.out; unfold tl at this; rw [if_pos q38, if_pos h11_2, if_pos q55] at this; rw [Hon.out] at this; simp only [List.length_append, List.length_cons, List.length_nil] at this ⊢; omega)).mono ?_
          rintro e w_7 hp
          obtain ⟨u_7, rfl, hq1, hq2, hq3⟩ := hp
          refine ⟨_, rfl, ?_⟩
          have H7 := Keep.mk (H6.out.step hq1 hq2 hq3)
          have X7 := Keep.mk (own_keeps H6.out.own X6.out (by decide) hq3)
          clear hq1 hq2 hq3
          clear c6_0 c6_1 c6_2 c6_3 c6_36
          have c7_0 := X7.out.c 0 (opA_0 x)
          have c7_1 := X7.out.c 1 (opA_1 x)
          have c7_2 := X7.out.c 2 (opA_2 x)
          have c7_3 := X7.out.c 3 (opA_3 x)
          have c7_36 := X7.out.c 36 (opA_36 x)
          simp only [Act.put, List.setIfInBounds_toArray, List.set_cons_zero, List.set_cons_succ]
          refine WL.val (by kernel_rfl) (u_7) (by go_simp) ?_
          simp only [Act.put, List.setIfInBounds_toArray, List.set_cons_zero, List.set_cons_succ]
          refine WL.nil ?_
          refine hK18 _ _ ?_
          refine wp_seq_k fun K19 hK19 => ?_
          refine wp_region_list (WL.out ?_)
          refine WL.val (by kernel_rfl) (.pointer (some ⟨gx, 4, none⟩)) (by go_simp) ?_
          simp only [Act.put, List.setIfInBounds_toArray, List.set_cons_zero, List.set_cons_succ]
          refine WL.val (by kernel_rfl) (.pointer (some ⟨gx, 36, none⟩)) (by go_simp) ?_
          simp only [Act.put, List.setIfInBounds_toArray, List.set_cons_zero, List.set_cons_succ]
          refine WL.val (by kernel_rfl) (.int .i64 x.op) (by go_simp) ?_
          simp only [Act.put, List.setIfInBounds_toArray, List.set_cons_zero, List.set_cons_succ]
          by_cases h16_3 : x.op = 0
          · skip
            refine WL.val (by kernel_rfl) (.bool false) (by go_simp) ?_
            simp only [Act.put, List.setIfInBounds_toArray, List.set_cons_zero, List.set_cons_succ]
            refine WL.nil ?_
            refine hK19 _ _ ?_
            refine wp_cond_false rfl ?_
            refine wp_skip ?_
            refine hK7 _ _ ?_
            refine wp_region_list (WL.out ?_)
            refine WL.val (by kernel_rfl) (.int .i64 (t : Int)) (by go_simp) ?_
            simp only [Act.put, List.setIfInBounds_toArray, List.set_cons_zero, List.set_cons_succ]
            refine WL.val (by kernel_rfl) (.int .i64 ((t : Int) + 1)) (by go_simp) ?_
            simp only [Act.put, List.setIfInBounds_toArray, List.set_cons_zero, List.set_cons_succ]
            refine WL.val (by kernel_rfl) (.int .i64 ((t : Int) + 1)) (by go_simp) ?_
            simp only [Act.put, List.setIfInBounds_toArray, List.set_cons_zero, List.set_cons_succ]
            refine WL.nil ?_
            have hE : L0 ++ numL l.length ++ (l.take (t + 1)).flatMap oneF = L1 ++ [x.kind] ++ bform (lst x.key) ++ bform (lst x.text) ++ numL (zig x.n) ++ numL on := by
              rw [HFull.out]; unfold tl
              rw [if_pos q38, if_pos h11_2, if_pos q55, if_pos h16_3]
              rw [Hon.out]
              simp
            refine ⟨⟨t + 1, u_7, .pointer (some ⟨gx, 0, none⟩), .bool true, .bool true, .int .i64 (t : Int), .slice va l.length vc, .int .i64 (l.length : Int), .bool true, .int .i64 (t : Int), .int .i64 ((t : Int) + 1), .slice va l.length vc, .int .i64 (t : Int), .pointer (some ⟨gL, ofL + t * 37, none⟩), .agg (opA x), u0, .pointer (some ⟨gx, 0, none⟩), .int .i64 x.kind, .int .u8 x.kind, .slice (some ⟨w_0.heap.size, 0, none⟩) 1 1, u_1, u_1, .pointer (some ⟨gx, 1, none⟩), .string x.key, vb2, u_3, .pointer (some ⟨gx, 0, none⟩), .int .i64 x.kind, .bool true, .bool true, u_3, .pointer (some ⟨gx, 2, none⟩), .string x.text, vb4, u_5, .pointer (some ⟨gx, 0, none⟩), .int .i64 x.kind, .bool true, u_5, .pointer (some ⟨gx, 3, none⟩), .int .i64 x.n, .int .u64 (zig x.n : Int), u_6, .pointer (some ⟨gx, 0, none⟩), .int .i64 x.kind, .bool true, .bool true, u_6, .pointer (some ⟨gx, 4, none⟩), .pointer (some ⟨gx, 36, none⟩), .int .i64 x.op, .int .u64 (on : Int), u_7, .pointer (some ⟨gx, 4, none⟩), .pointer (some ⟨gx, 36, none⟩), .int .i64 x.op, .bool false, u66, u67, u68, u69, u70, rfl, by omega, by rw [hE]; exact H7.out⟩, ?_⟩
            simp only [intOf]; show l.length - ((t : Int) + 1).toNat < l.length - ((t : Int)).toNat; omega
          · skip
            refine WL.val (by kernel_rfl) (.bool true) (by go_simp) ?_
            simp only [Act.put, List.setIfInBounds_toArray, List.set_cons_zero, List.set_cons_succ]
            refine WL.nil ?_
            refine hK19 _ _ ?_
            refine wp_cond_true rfl ?_
            refine wp_region_list (WL.out ?_)
            refine WL.val (by kernel_rfl) (u_7) (by go_simp) ?_
            simp only [Act.put, List.setIfInBounds_toArray, List.set_cons_zero, List.set_cons_succ]
            refine WL.val (by kernel_rfl) (.pointer (some ⟨gx, 4, none⟩)) (by go_simp) ?_
            simp only [Act.put, List.setIfInBounds_toArray, List.set_cons_zero, List.set_cons_succ]
            refine WL.val (by kernel_rfl) (.pointer (some ⟨gx, 4, none⟩)) (by go_simp) ?_
            simp only [Act.put, List.setIfInBounds_toArray, List.set_cons_zero, List.set_cons_succ]
            refine WL.midA (by kernel_rfl) 29 (.tmp 68) rfl gx 4 rfl (bytesA 32 (hof x.node)) _ (opA_nodes X7.out) Try.underlying29 rfl (Try.size29B _) ?_
            simp only [Act.put, List.setIfInBounds_toArray, List.set_cons_zero, List.set_cons_succ]
            refine WL.callF (by kernel_rfl) 43 _ _ rfl Try.in43 #[u_7, .agg (bytesA 32 (hof x.node))] (by simp [Act.eval]) ?_
            refine (rhash_any u_7 (L1 ++ [x.kind] ++ bform (lst x.key) ++ bform (lst x.text) ++ numL (zig x.n) ++ numL on) (hof x.node) w_7 H7.out.own (by have := Hbd.out; unfold tl at this; rw [if_pos q38, if_pos h11_2, if_pos q55, if_neg h16_3] at this; rw [Hon.out] at this; simp only [hl_len, List.length_append, List.length_cons, List.length_nil] at this ⊢; omega)).mono ?_
            rintro e w_8 hp
            obtain ⟨u_8, rfl, hq1, hq2, hq3⟩ := hp
            refine ⟨_, rfl, ?_⟩
            have H8 := Keep.mk (H7.out.step hq1 hq2 hq3)
            have X8 := Keep.mk (own_keeps H7.out.own X7.out (by decide) hq3)
            clear hq1 hq2 hq3
            clear c7_0 c7_1 c7_2 c7_3 c7_36
            have c8_0 := X8.out.c 0 (opA_0 x)
            have c8_1 := X8.out.c 1 (opA_1 x)
            have c8_2 := X8.out.c 2 (opA_2 x)
            have c8_3 := X8.out.c 3 (opA_3 x)
            have c8_36 := X8.out.c 36 (opA_36 x)
            simp only [Act.put, List.setIfInBounds_toArray, List.set_cons_zero, List.set_cons_succ]
            refine WL.val (by kernel_rfl) (u_8) (by go_simp) ?_
            simp only [Act.put, List.setIfInBounds_toArray, List.set_cons_zero, List.set_cons_succ]
            refine WL.nil ?_
            refine hK7 _ _ ?_
            refine wp_region_list (WL.out ?_)
            refine WL.val (by kernel_rfl) (.int .i64 (t : Int)) (by go_simp) ?_
            simp only [Act.put, List.setIfInBounds_toArray, List.set_cons_zero, List.set_cons_succ]
            refine WL.val (by kernel_rfl) (.int .i64 ((t : Int) + 1)) (by go_simp) ?_
            simp only [Act.put, List.setIfInBounds_toArray, List.set_cons_zero, List.set_cons_succ]
            refine WL.val (by kernel_rfl) (.int .i64 ((t : Int) + 1)) (by go_simp) ?_
            simp only [Act.put, List.setIfInBounds_toArray, List.set_cons_zero, List.set_cons_succ]
            refine WL.nil ?_
            have hE : L0 ++ numL l.length ++ (l.take (t + 1)).flatMap oneF = L1 ++ [x.kind] ++ bform (lst x.key) ++ bform (lst x.text) ++ numL (zig x.n) ++ numL on ++ hl 32 (hof x.node) := by
              rw [HFull.out]; unfold tl
              rw [if_pos q38, if_pos h11_2, if_pos q55, if_neg h16_3]
              rw [Hon.out]
              simp
            refine ⟨⟨t + 1, u_8, .pointer (some ⟨gx, 0, none⟩), .bool true, .bool true, .int .i64 (t : Int), .slice va l.length vc, .int .i64 (l.length : Int), .bool true, .int .i64 (t : Int), .int .i64 ((t : Int) + 1), .slice va l.length vc, .int .i64 (t : Int), .pointer (some ⟨gL, ofL + t * 37, none⟩), .agg (opA x), u0, .pointer (some ⟨gx, 0, none⟩), .int .i64 x.kind, .int .u8 x.kind, .slice (some ⟨w_0.heap.size, 0, none⟩) 1 1, u_1, u_1, .pointer (some ⟨gx, 1, none⟩), .string x.key, vb2, u_3, .pointer (some ⟨gx, 0, none⟩), .int .i64 x.kind, .bool true, .bool true, u_3, .pointer (some ⟨gx, 2, none⟩), .string x.text, vb4, u_5, .pointer (some ⟨gx, 0, none⟩), .int .i64 x.kind, .bool true, u_5, .pointer (some ⟨gx, 3, none⟩), .int .i64 x.n, .int .u64 (zig x.n : Int), u_6, .pointer (some ⟨gx, 0, none⟩), .int .i64 x.kind, .bool true, .bool true, u_6, .pointer (some ⟨gx, 4, none⟩), .pointer (some ⟨gx, 36, none⟩), .int .i64 x.op, .int .u64 (on : Int), u_7, .pointer (some ⟨gx, 4, none⟩), .pointer (some ⟨gx, 36, none⟩), .int .i64 x.op, .bool true, u_7, .pointer (some ⟨gx, 4, none⟩), .pointer (some ⟨gx, 4, none⟩), .agg (bytesA 32 (hof x.node)), u_8, rfl, by omega, by rw [hE]; exact H8.out⟩, ?_⟩
            simp only [intOf]; show l.length - ((t : Int) + 1).toNat < l.length - ((t : Int)).toNat; omega
        · have q55 := h14_0
          rw [h14_0]
          refine WL.val (by kernel_rfl) (.bool false) (by go_simp) ?_
          simp only [Act.put, List.setIfInBounds_toArray, List.set_cons_zero, List.set_cons_succ]
          refine WL.nil ?_
          refine hK17 _ _ ?_
          refine wp_cond_false rfl ?_
          refine wp_skip ?_
          refine hK7 _ _ ?_
          refine wp_region_list (WL.out ?_)
          refine WL.val (by kernel_rfl) (.int .i64 (t : Int)) (by go_simp) ?_
          simp only [Act.put, List.setIfInBounds_toArray, List.set_cons_zero, List.set_cons_succ]
          refine WL.val (by kernel_rfl) (.int .i64 ((t : Int) + 1)) (by go_simp) ?_
          simp only [Act.put, List.setIfInBounds_toArray, List.set_cons_zero, List.set_cons_succ]
          refine WL.val (by kernel_rfl) (.int .i64 ((t : Int) + 1)) (by go_simp) ?_
          simp only [Act.put, List.setIfInBounds_toArray, List.set_cons_zero, List.set_cons_succ]
          refine WL.nil ?_
          have hE : L0 ++ numL l.length ++ (l.take (t + 1)).flatMap oneF = L1 ++ [x.kind] ++ bform (lst x.key) ++ bform (lst x.text) ++ numL (zig x.n) := by
            rw [HFull.out]; unfold tl
            rw [if_pos q38, if_pos h11_2, if_neg (show ¬ hat x.kind = true by rw [q55]; decide)]
            simp
          refine ⟨⟨t + 1, u_6, .pointer (some ⟨gx, 0, none⟩), .bool true, .bool false, .int .i64 (t : Int), .slice va l.length vc, .int .i64 (l.length : Int), .bool true, .int .i64 (t : Int), .int .i64 ((t : Int) + 1), .slice va l.length vc, .int .i64 (t : Int), .pointer (some ⟨gL, ofL + t * 37, none⟩), .agg (opA x), u0, .pointer (some ⟨gx, 0, none⟩), .int .i64 x.kind, .int .u8 x.kind, .slice (some ⟨w_0.heap.size, 0, none⟩) 1 1, u_1, u_1, .pointer (some ⟨gx, 1, none⟩), .string x.key, vb2, u_3, .pointer (some ⟨gx, 0, none⟩), .int .i64 x.kind, .bool true, .bool true, u_3, .pointer (some ⟨gx, 2, none⟩), .string x.text, vb4, u_5, .pointer (some ⟨gx, 0, none⟩), .int .i64 x.kind, .bool true, u_5, .pointer (some ⟨gx, 3, none⟩), .int .i64 x.n, .int .u64 (zig x.n : Int), u_6, .pointer (some ⟨gx, 0, none⟩), .int .i64 x.kind, .bool false, .bool false, u56, u57, u58, u59, u60, u61, u62, u63, u64, u65, u66, u67, u68, u69, u70, rfl, by omega, by rw [hE]; exact H6.out⟩, ?_⟩
          simp only [intOf]; show l.length - ((t : Int) + 1).toNat < l.length - ((t : Int)).toNat; omega
      · skip
        refine WL.val (by kernel_rfl) (.bool false) (by go_simp) ?_
        simp only [Act.put, List.setIfInBounds_toArray, List.set_cons_zero, List.set_cons_succ]
        refine WL.nil ?_
        refine hK15 _ _ ?_
        refine wp_cond_false rfl ?_
        refine wp_skip ?_
        refine hK14 _ _ ?_
        refine wp_seq_k fun K20 hK20 => ?_
        refine wp_region_list (WL.out ?_)
        refine WL.val (by kernel_rfl) (.pointer (some ⟨gx, 0, none⟩)) (by go_simp) ?_
        simp only [Act.put, List.setIfInBounds_toArray, List.set_cons_zero, List.set_cons_succ]
        refine WL.val (by kernel_rfl) (.int .i64 x.kind) (by go_simp) ?_
        simp only [Act.put, List.setIfInBounds_toArray, List.set_cons_zero, List.set_cons_succ]
        refine WL.callF (by kernel_rfl) 42 _ _ rfl Try.in42 #[.int .i64 x.kind] (by simp [Act.eval]) ?_
        refine (hasAt_any x.kind w_5).mono ?_
        rintro e w_y ⟨rfl, hwy⟩
        rw [hwy]
        clear hwy w_y
        refine ⟨_, rfl, ?_⟩
        simp only [Act.put, List.setIfInBounds_toArray, List.set_cons_zero, List.set_cons_succ]
        refine WL.val (by kernel_rfl) (.bool (hat x.kind)) (by go_simp) ?_
        simp only [Act.put, List.setIfInBounds_toArray, List.set_cons_zero, List.set_cons_succ]
        refine WL.nil ?_
        refine hK20 _ _ ?_
        refine wp_seq_k fun K21 hK21 => ?_
        refine wp_region_list (WL.out ?_)
        rcases Bool.eq_false_or_eq_true (hat x.kind) with h14_0 | h14_0
        · have q55 := h14_0
          rw [h14_0]
          refine WL.val (by kernel_rfl) (.bool true) (by go_simp) ?_
          simp only [Act.put, List.setIfInBounds_toArray, List.set_cons_zero, List.set_cons_succ]
          refine WL.nil ?_
          refine hK21 _ _ ?_
          refine wp_cond_true rfl ?_
          refine wp_seq_k fun K22 hK22 => ?_
          refine wp_region_list (WL.out ?_)
          refine WL.val (by kernel_rfl) (u_5) (by go_simp) ?_
          simp only [Act.put, List.setIfInBounds_toArray, List.set_cons_zero, List.set_cons_succ]
          refine WL.val (by kernel_rfl) (.pointer (some ⟨gx, 4, none⟩)) (by go_simp) ?_
          simp only [Act.put, List.setIfInBounds_toArray, List.set_cons_zero, List.set_cons_succ]
          refine WL.val (by kernel_rfl) (.pointer (some ⟨gx, 36, none⟩)) (by go_simp) ?_
          simp only [Act.put, List.setIfInBounds_toArray, List.set_cons_zero, List.set_cons_succ]
          refine WL.val (by kernel_rfl) (.int .i64 x.op) (by go_simp) ?_
          simp only [Act.put, List.setIfInBounds_toArray, List.set_cons_zero, List.set_cons_succ]
          obtain ⟨on, hon⟩ : ∃ on : Nat, Keep (x.op = (on : Int)) := ⟨x.op.toNat, ⟨by have := (HHat.out q55).1; omega⟩⟩
          have hwo : IntKind.u64.wrap x.op = (on : Int) := by rw [hon.out, IntKind.wrap_u64]; have := (HHat.out q55).2; have := hon.out; omega
          have Hon : Keep (x.op.toNat = on) := ⟨by rw [hon.out, Int.toNat_natCast]⟩
          refine WL.val (by kernel_rfl) (.int .u64 (on : Int)) (by go_simp) ?_
          simp only [Act.put, List.setIfInBounds_toArray, List.set_cons_zero, List.set_cons_succ]
          refine WL.callF (by kernel_rfl) 38 _ _ rfl Try.in38 #[u_5, .int .u64 (on : Int)] (by simp [Act.eval]) ?_
          refine (rnum_any u_5 (L1 ++ [x.kind] ++ bform (lst x.key) ++ bform (lst x.text)) on w_5 H5.out.own (by have := (HHat.out q55).2; have := hon.out; omega) (by have := Hbd.out; unfold tl at this; rw [if_pos q38, if_neg h11_2, if_pos q55] at this; rw [Hon.out] at this; simp only [List.length_append, List.length_cons, List.length_nil] at this ⊢; omega)).mono ?_
          rintro e w_6 hp
          obtain ⟨u_6, rfl, hq1, hq2, hq3⟩ := hp
          refine ⟨_, rfl, ?_⟩
          have H6 := Keep.mk (H5.out.step hq1 hq2 hq3)
          have X6 := Keep.mk (own_keeps H5.out.own X5.out (by decide) hq3)
          clear hq1 hq2 hq3
          clear c5_0 c5_1 c5_2 c5_3 c5_36
          have c6_0 := X6.out.c 0 (opA_0 x)
          have c6_1 := X6.out.c 1 (opA_1 x)
          have c6_2 := X6.out.c 2 (opA_2 x)
          have c6_3 := X6.out.c 3 (opA_3 x)
          have c6_36 := X6.out.c 36 (opA_36 x)
          simp only [Act.put, List.setIfInBounds_toArray, List.set_cons_zero, List.set_cons_succ]
          refine WL.val (by kernel_rfl) (u_6) (by go_simp) ?_
          simp only [Act.put, List.setIfInBounds_toArray, List.set_cons_zero, List.set_cons_succ]
          refine WL.nil ?_
          refine hK22 _ _ ?_
          refine wp_seq_k fun K23 hK23 => ?_
          refine wp_region_list (WL.out ?_)
          refine WL.val (by kernel_rfl) (.pointer (some ⟨gx, 4, none⟩)) (by go_simp) ?_
          simp only [Act.put, List.setIfInBounds_toArray, List.set_cons_zero, List.set_cons_succ]
          refine WL.val (by kernel_rfl) (.pointer (some ⟨gx, 36, none⟩)) (by go_simp) ?_
          simp only [Act.put, List.setIfInBounds_toArray, List.set_cons_zero, List.set_cons_succ]
          refine WL.val (by kernel_rfl) (.int .i64 x.op) (by go_simp) ?_
          simp only [Act.put, List.setIfInBounds_toArray, List.set_cons_zero, List.set_cons_succ]
          by_cases h16_3 : x.op = 0
          · skip
            refine WL.val (by kernel_rfl) (.bool false) (by go_simp) ?_
            simp only [Act.put, List.setIfInBounds_toArray, List.set_cons_zero, List.set_cons_succ]
            refine WL.nil ?_
            refine hK23 _ _ ?_
            refine wp_cond_false rfl ?_
            refine wp_skip ?_
            refine hK7 _ _ ?_
            refine wp_region_list (WL.out ?_)
            refine WL.val (by kernel_rfl) (.int .i64 (t : Int)) (by go_simp) ?_
            simp only [Act.put, List.setIfInBounds_toArray, List.set_cons_zero, List.set_cons_succ]
            refine WL.val (by kernel_rfl) (.int .i64 ((t : Int) + 1)) (by go_simp) ?_
            simp only [Act.put, List.setIfInBounds_toArray, List.set_cons_zero, List.set_cons_succ]
            refine WL.val (by kernel_rfl) (.int .i64 ((t : Int) + 1)) (by go_simp) ?_
            simp only [Act.put, List.setIfInBounds_toArray, List.set_cons_zero, List.set_cons_succ]
            refine WL.nil ?_
            have hE : L0 ++ numL l.length ++ (l.take (t + 1)).flatMap oneF = L1 ++ [x.kind] ++ bform (lst x.key) ++ bform (lst x.text) ++ numL on := by
              rw [HFull.out]; unfold tl
              rw [if_pos q38, if_neg h11_2, if_pos q55, if_pos h16_3]
              rw [Hon.out]
              simp
            refine ⟨⟨t + 1, u_6, .pointer (some ⟨gx, 0, none⟩), .bool true, .bool true, .int .i64 (t : Int), .slice va l.length vc, .int .i64 (l.length : Int), .bool true, .int .i64 (t : Int), .int .i64 ((t : Int) + 1), .slice va l.length vc, .int .i64 (t : Int), .pointer (some ⟨gL, ofL + t * 37, none⟩), .agg (opA x), u0, .pointer (some ⟨gx, 0, none⟩), .int .i64 x.kind, .int .u8 x.kind, .slice (some ⟨w_0.heap.size, 0, none⟩) 1 1, u_1, u_1, .pointer (some ⟨gx, 1, none⟩), .string x.key, vb2, u_3, .pointer (some ⟨gx, 0, none⟩), .int .i64 x.kind, .bool true, .bool true, u_3, .pointer (some ⟨gx, 2, none⟩), .string x.text, vb4, u_5, .pointer (some ⟨gx, 0, none⟩), .int .i64 x.kind, .bool false, u47, u48, u49, u50, u51, .pointer (some ⟨gx, 0, none⟩), .int .i64 x.kind, .bool true, .bool true, u_5, .pointer (some ⟨gx, 4, none⟩), .pointer (some ⟨gx, 36, none⟩), .int .i64 x.op, .int .u64 (on : Int), u_6, .pointer (some ⟨gx, 4, none⟩), .pointer (some ⟨gx, 36, none⟩), .int .i64 x.op, .bool false, u66, u67, u68, u69, u70, rfl, by omega, by rw [hE]; exact H6.out⟩, ?_⟩
            simp only [intOf]; show l.length - ((t : Int) + 1).toNat < l.length - ((t : Int)).toNat; omega
          · skip
            refine WL.val (by kernel_rfl) (.bool true) (by go_simp) ?_
            simp only [Act.put, List.setIfInBounds_toArray, List.set_cons_zero, List.set_cons_succ]
            refine WL.nil ?_
            refine hK23 _ _ ?_
            refine wp_cond_true rfl ?_
            refine wp_region_list (WL.out ?_)
            refine WL.val (by kernel_rfl) (u_6) (by go_simp) ?_
            simp only [Act.put, List.setIfInBounds_toArray, List.set_cons_zero, List.set_cons_succ]
            refine WL.val (by kernel_rfl) (.pointer (some ⟨gx, 4, none⟩)) (by go_simp) ?_
            simp only [Act.put, List.setIfInBounds_toArray, List.set_cons_zero, List.set_cons_succ]
            refine WL.val (by kernel_rfl) (.pointer (some ⟨gx, 4, none⟩)) (by go_simp) ?_
            simp only [Act.put, List.setIfInBounds_toArray, List.set_cons_zero, List.set_cons_succ]
            refine WL.midA (by kernel_rfl) 29 (.tmp 68) rfl gx 4 rfl (bytesA 32 (hof x.node)) _ (opA_nodes X6.out) Try.underlying29 rfl (Try.size29B _) ?_
            simp only [Act.put, List.setIfInBounds_toArray, List.set_cons_zero, List.set_cons_succ]
            refine WL.callF (by kernel_rfl) 43 _ _ rfl Try.in43 #[u_6, .agg (bytesA 32 (hof x.node))] (by simp [Act.eval]) ?_
            refine (rhash_any u_6 (L1 ++ [x.kind] ++ bform (lst x.key) ++ bform (lst x.text) ++ numL on) (hof x.node) w_6 H6.out.own (by have := Hbd.out; unfold tl at this; rw [if_pos q38, if_neg h11_2, if_pos q55, if_neg h16_3] at this; rw [Hon.out] at this; simp only [hl_len, List.length_append, List.length_cons, List.length_nil] at this ⊢; omega)).mono ?_
            rintro e w_7 hp
            obtain ⟨u_7, rfl, hq1, hq2, hq3⟩ := hp
            refine ⟨_, rfl, ?_⟩
            have H7 := Keep.mk (H6.out.step hq1 hq2 hq3)
            have X7 := Keep.mk (own_keeps H6.out.own X6.out (by decide) hq3)
            clear hq1 hq2 hq3
            clear c6_0 c6_1 c6_2 c6_3 c6_36
            have c7_0 := X7.out.c 0 (opA_0 x)
            have c7_1 := X7.out.c 1 (opA_1 x)
            have c7_2 := X7.out.c 2 (opA_2 x)
            have c7_3 := X7.out.c 3 (opA_3 x)
            have c7_36 := X7.out.c 36 (opA_36 x)
            simp only [Act.put, List.setIfInBounds_toArray, List.set_cons_zero, List.set_cons_succ]
            refine WL.val (by kernel_rfl) (u_7) (by go_simp) ?_
            simp only [Act.put, List.setIfInBounds_toArray, List.set_cons_zero, List.set_cons_succ]
            refine WL.nil ?_
            refine hK7 _ _ ?_
            refine wp_region_list (WL.out ?_)
            refine WL.val (by kernel_rfl) (.int .i64 (t : Int)) (by go_simp) ?_
            simp only [Act.put, List.setIfInBounds_toArray, List.set_cons_zero, List.set_cons_succ]
            refine WL.val (by kernel_rfl) (.int .i64 ((t : Int) + 1)) (by go_simp) ?_
            simp only [Act.put, List.setIfInBounds_toArray, List.set_cons_zero, List.set_cons_succ]
            refine WL.val (by kernel_rfl) (.int .i64 ((t : Int) + 1)) (by go_simp) ?_
            simp only [Act.put, List.setIfInBounds_toArray, List.set_cons_zero, List.set_cons_succ]
            refine WL.nil ?_
            have hE : L0 ++ numL l.length ++ (l.take (t + 1)).flatMap oneF = L1 ++ [x.kind] ++ bform (lst x.key) ++ bform (lst x.text) ++ numL on ++ hl 32 (hof x.node) := by
              rw [HFull.out]; unfold tl
              rw [if_pos q38, if_neg h11_2, if_pos q55, if_neg h16_3]
              rw [Hon.out]
              simp
            refine ⟨⟨t + 1, u_7, .pointer (some ⟨gx, 0, none⟩), .bool true, .bool true, .int .i64 (t : Int), .slice va l.length vc, .int .i64 (l.length : Int), .bool true, .int .i64 (t : Int), .int .i64 ((t : Int) + 1), .slice va l.length vc, .int .i64 (t : Int), .pointer (some ⟨gL, ofL + t * 37, none⟩), .agg (opA x), u0, .pointer (some ⟨gx, 0, none⟩), .int .i64 x.kind, .int .u8 x.kind, .slice (some ⟨w_0.heap.size, 0, none⟩) 1 1, u_1, u_1, .pointer (some ⟨gx, 1, none⟩), .string x.key, vb2, u_3, .pointer (some ⟨gx, 0, none⟩), .int .i64 x.kind, .bool true, .bool true, u_3, .pointer (some ⟨gx, 2, none⟩), .string x.text, vb4, u_5, .pointer (some ⟨gx, 0, none⟩), .int .i64 x.kind, .bool false, u47, u48, u49, u50, u51, .pointer (some ⟨gx, 0, none⟩), .int .i64 x.kind, .bool true, .bool true, u_5, .pointer (some ⟨gx, 4, none⟩), .pointer (some ⟨gx, 36, none⟩), .int .i64 x.op, .int .u64 (on : Int), u_6, .pointer (some ⟨gx, 4, none⟩), .pointer (some ⟨gx, 36, none⟩), .int .i64 x.op, .bool true, u_6, .pointer (some ⟨gx, 4, none⟩), .pointer (some ⟨gx, 4, none⟩), .agg (bytesA 32 (hof x.node)), u_7, rfl, by omega, by rw [hE]; exact H7.out⟩, ?_⟩
            simp only [intOf]; show l.length - ((t : Int) + 1).toNat < l.length - ((t : Int)).toNat; omega
        · have q55 := h14_0
          rw [h14_0]
          refine WL.val (by kernel_rfl) (.bool false) (by go_simp) ?_
          simp only [Act.put, List.setIfInBounds_toArray, List.set_cons_zero, List.set_cons_succ]
          refine WL.nil ?_
          refine hK21 _ _ ?_
          refine wp_cond_false rfl ?_
          refine wp_skip ?_
          refine hK7 _ _ ?_
          refine wp_region_list (WL.out ?_)
          refine WL.val (by kernel_rfl) (.int .i64 (t : Int)) (by go_simp) ?_
          simp only [Act.put, List.setIfInBounds_toArray, List.set_cons_zero, List.set_cons_succ]
          refine WL.val (by kernel_rfl) (.int .i64 ((t : Int) + 1)) (by go_simp) ?_
          simp only [Act.put, List.setIfInBounds_toArray, List.set_cons_zero, List.set_cons_succ]
          refine WL.val (by kernel_rfl) (.int .i64 ((t : Int) + 1)) (by go_simp) ?_
          simp only [Act.put, List.setIfInBounds_toArray, List.set_cons_zero, List.set_cons_succ]
          refine WL.nil ?_
          have hE : L0 ++ numL l.length ++ (l.take (t + 1)).flatMap oneF = L1 ++ [x.kind] ++ bform (lst x.key) ++ bform (lst x.text) := by
            rw [HFull.out]; unfold tl
            rw [if_pos q38, if_neg h11_2, if_neg (show ¬ hat x.kind = true by rw [q55]; decide)]
            simp
          refine ⟨⟨t + 1, u_5, .pointer (some ⟨gx, 0, none⟩), .bool true, .bool false, .int .i64 (t : Int), .slice va l.length vc, .int .i64 (l.length : Int), .bool true, .int .i64 (t : Int), .int .i64 ((t : Int) + 1), .slice va l.length vc, .int .i64 (t : Int), .pointer (some ⟨gL, ofL + t * 37, none⟩), .agg (opA x), u0, .pointer (some ⟨gx, 0, none⟩), .int .i64 x.kind, .int .u8 x.kind, .slice (some ⟨w_0.heap.size, 0, none⟩) 1 1, u_1, u_1, .pointer (some ⟨gx, 1, none⟩), .string x.key, vb2, u_3, .pointer (some ⟨gx, 0, none⟩), .int .i64 x.kind, .bool true, .bool true, u_3, .pointer (some ⟨gx, 2, none⟩), .string x.text, vb4, u_5, .pointer (some ⟨gx, 0, none⟩), .int .i64 x.kind, .bool false, u47, u48, u49, u50, u51, .pointer (some ⟨gx, 0, none⟩), .int .i64 x.kind, .bool false, .bool false, u56, u57, u58, u59, u60, u61, u62, u63, u64, u65, u66, u67, u68, u69, u70, rfl, by omega, by rw [hE]; exact H5.out⟩, ?_⟩
          simp only [intOf]; show l.length - ((t : Int) + 1).toNat < l.length - ((t : Int)).toNat; omega
    · have q38 := h9_0
      rw [h9_0]
      refine WL.val (by kernel_rfl) (.bool false) (by go_simp) ?_
      simp only [Act.put, List.setIfInBounds_toArray, List.set_cons_zero, List.set_cons_succ]
      refine WL.nil ?_
      refine hK13 _ _ ?_
      refine wp_cond_false rfl ?_
      refine wp_skip ?_
      refine hK12 _ _ ?_
      refine wp_seq_k fun K24 hK24 => ?_
      refine wp_seq_k fun K25 hK25 => ?_
      refine wp_region_list (WL.out ?_)
      refine WL.val (by kernel_rfl) (.pointer (some ⟨gx, 0, none⟩)) (by go_simp) ?_
      simp only [Act.put, List.setIfInBounds_toArray, List.set_cons_zero, List.set_cons_succ]
      refine WL.val (by kernel_rfl) (.int .i64 x.kind) (by go_simp) ?_
      simp only [Act.put, List.setIfInBounds_toArray, List.set_cons_zero, List.set_cons_succ]
      by_cases h11_2 : x.kind = 6
      · skip
        refine WL.val (by kernel_rfl) (.bool true) (by go_simp) ?_
        simp only [Act.put, List.setIfInBounds_toArray, List.set_cons_zero, List.set_cons_succ]
        refine WL.nil ?_
        refine hK25 _ _ ?_
        refine wp_cond_true rfl ?_
        refine wp_region_list (WL.out ?_)
        refine WL.val (by kernel_rfl) (u_3) (by go_simp) ?_
        simp only [Act.put, List.setIfInBounds_toArray, List.set_cons_zero, List.set_cons_succ]
        refine WL.val (by kernel_rfl) (.pointer (some ⟨gx, 3, none⟩)) (by go_simp) ?_
        simp only [Act.put, List.setIfInBounds_toArray, List.set_cons_zero, List.set_cons_succ]
        refine WL.val (by kernel_rfl) (.int .i64 x.n) (by go_simp) ?_
        simp only [Act.put, List.setIfInBounds_toArray, List.set_cons_zero, List.set_cons_succ]
        refine WL.callF (by kernel_rfl) 41 _ _ rfl Try.in41 #[.int .i64 x.n] (by simp [Act.eval]) ?_
        refine (rzig_any x.n w_3 Hx.out.n1 Hx.out.n2).mono ?_
        rintro e w_y ⟨rfl, hwy⟩
        rw [hwy]
        clear hwy w_y
        refine ⟨_, rfl, ?_⟩
        simp only [Act.put, List.setIfInBounds_toArray, List.set_cons_zero, List.set_cons_succ]
        refine WL.callF (by kernel_rfl) 38 _ _ rfl Try.in38 #[u_3, .int .u64 (zig x.n : Int)] (by simp [Act.eval]) ?_
        refine (rnum_any u_3 (L1 ++ [x.kind] ++ bform (lst x.key)) (zig x.n) w_3 H3.out.own (zig_lt _ Hx.out.n1 Hx.out.n2) (by have := Hbd.out; unfold tl at this; rw [if_neg (show ¬ txt x.kind = true by rw [q38]; decide), if_pos h11_2] at this; simp only [List.length_append, List.length_cons, List.length_nil] at this ⊢; omega)).mono ?_
        rintro e w_4 hp
        obtain ⟨u_4, rfl, hq1, hq2, hq3⟩ := hp
        refine ⟨_, rfl, ?_⟩
        have H4 := Keep.mk (H3.out.step hq1 hq2 hq3)
        have X4 := Keep.mk (own_keeps H3.out.own X3.out (by decide) hq3)
        clear hq1 hq2 hq3
        clear c3_0 c3_1 c3_2 c3_3 c3_36
        have c4_0 := X4.out.c 0 (opA_0 x)
        have c4_1 := X4.out.c 1 (opA_1 x)
        have c4_2 := X4.out.c 2 (opA_2 x)
        have c4_3 := X4.out.c 3 (opA_3 x)
        have c4_36 := X4.out.c 36 (opA_36 x)
        simp only [Act.put, List.setIfInBounds_toArray, List.set_cons_zero, List.set_cons_succ]
        refine WL.val (by kernel_rfl) (u_4) (by go_simp) ?_
        simp only [Act.put, List.setIfInBounds_toArray, List.set_cons_zero, List.set_cons_succ]
        refine WL.nil ?_
        refine hK24 _ _ ?_
        refine wp_seq_k fun K26 hK26 => ?_
        refine wp_region_list (WL.out ?_)
        refine WL.val (by kernel_rfl) (.pointer (some ⟨gx, 0, none⟩)) (by go_simp) ?_
        simp only [Act.put, List.setIfInBounds_toArray, List.set_cons_zero, List.set_cons_succ]
        refine WL.val (by kernel_rfl) (.int .i64 x.kind) (by go_simp) ?_
        simp only [Act.put, List.setIfInBounds_toArray, List.set_cons_zero, List.set_cons_succ]
        refine WL.callF (by kernel_rfl) 42 _ _ rfl Try.in42 #[.int .i64 x.kind] (by simp [Act.eval]) ?_
        refine (hasAt_any x.kind w_4).mono ?_
        rintro e w_y ⟨rfl, hwy⟩
        rw [hwy]
        clear hwy w_y
        refine ⟨_, rfl, ?_⟩
        simp only [Act.put, List.setIfInBounds_toArray, List.set_cons_zero, List.set_cons_succ]
        refine WL.val (by kernel_rfl) (.bool (hat x.kind)) (by go_simp) ?_
        simp only [Act.put, List.setIfInBounds_toArray, List.set_cons_zero, List.set_cons_succ]
        refine WL.nil ?_
        refine hK26 _ _ ?_
        refine wp_seq_k fun K27 hK27 => ?_
        refine wp_region_list (WL.out ?_)
        rcases Bool.eq_false_or_eq_true (hat x.kind) with h14_0 | h14_0
        · have q55 := h14_0
          rw [h14_0]
          refine WL.val (by kernel_rfl) (.bool true) (by go_simp) ?_
          simp only [Act.put, List.setIfInBounds_toArray, List.set_cons_zero, List.set_cons_succ]
          refine WL.nil ?_
          refine hK27 _ _ ?_
          refine wp_cond_true rfl ?_
          refine wp_seq_k fun K28 hK28 => ?_
          refine wp_region_list (WL.out ?_)
          refine WL.val (by kernel_rfl) (u_4) (by go_simp) ?_
          simp only [Act.put, List.setIfInBounds_toArray, List.set_cons_zero, List.set_cons_succ]
          refine WL.val (by kernel_rfl) (.pointer (some ⟨gx, 4, none⟩)) (by go_simp) ?_
          simp only [Act.put, List.setIfInBounds_toArray, List.set_cons_zero, List.set_cons_succ]
          refine WL.val (by kernel_rfl) (.pointer (some ⟨gx, 36, none⟩)) (by go_simp) ?_
          simp only [Act.put, List.setIfInBounds_toArray, List.set_cons_zero, List.set_cons_succ]
          refine WL.val (by kernel_rfl) (.int .i64 x.op) (by go_simp) ?_
          simp only [Act.put, List.setIfInBounds_toArray, List.set_cons_zero, List.set_cons_succ]
          obtain ⟨on, hon⟩ : ∃ on : Nat, Keep (x.op = (on : Int)) := ⟨x.op.toNat, ⟨by have := (HHat.out q55).1; omega⟩⟩
          have hwo : IntKind.u64.wrap x.op = (on : Int) := by rw [hon.out, IntKind.wrap_u64]; have := (HHat.out q55).2; have := hon.out; omega
          have Hon : Keep (x.op.toNat = on) := ⟨by rw [hon.out, Int.toNat_natCast]⟩
          refine WL.val (by kernel_rfl) (.int .u64 (on : Int)) (by go_simp) ?_
          simp only [Act.put, List.setIfInBounds_toArray, List.set_cons_zero, List.set_cons_succ]
          refine WL.callF (by kernel_rfl) 38 _ _ rfl Try.in38 #[u_4, .int .u64 (on : Int)] (by simp [Act.eval]) ?_
          refine (rnum_any u_4 (L1 ++ [x.kind] ++ bform (lst x.key) ++ numL (zig x.n)) on w_4 H4.out.own (by have := (HHat.out q55).2; have := hon.out; omega) (by have := Hbd.out; unfold tl at this; rw [if_neg (show ¬ txt x.kind = true by rw [q38]; decide), if_pos h11_2, if_pos q55] at this; rw [Hon.out] at this; simp only [List.length_append, List.length_cons, List.length_nil] at this ⊢; omega)).mono ?_
          rintro e w_5 hp
          obtain ⟨u_5, rfl, hq1, hq2, hq3⟩ := hp
          refine ⟨_, rfl, ?_⟩
          have H5 := Keep.mk (H4.out.step hq1 hq2 hq3)
          have X5 := Keep.mk (own_keeps H4.out.own X4.out (by decide) hq3)
          clear hq1 hq2 hq3
          clear c4_0 c4_1 c4_2 c4_3 c4_36
          have c5_0 := X5.out.c 0 (opA_0 x)
          have c5_1 := X5.out.c 1 (opA_1 x)
          have c5_2 := X5.out.c 2 (opA_2 x)
          have c5_3 := X5.out.c 3 (opA_3 x)
          have c5_36 := X5.out.c 36 (opA_36 x)
          simp only [Act.put, List.setIfInBounds_toArray, List.set_cons_zero, List.set_cons_succ]
          refine WL.val (by kernel_rfl) (u_5) (by go_simp) ?_
          simp only [Act.put, List.setIfInBounds_toArray, List.set_cons_zero, List.set_cons_succ]
          refine WL.nil ?_
          refine hK28 _ _ ?_
          refine wp_seq_k fun K29 hK29 => ?_
          refine wp_region_list (WL.out ?_)
          refine WL.val (by kernel_rfl) (.pointer (some ⟨gx, 4, none⟩)) (by go_simp) ?_
          simp only [Act.put, List.setIfInBounds_toArray, List.set_cons_zero, List.set_cons_succ]
          refine WL.val (by kernel_rfl) (.pointer (some ⟨gx, 36, none⟩)) (by go_simp) ?_
          simp only [Act.put, List.setIfInBounds_toArray, List.set_cons_zero, List.set_cons_succ]
          refine WL.val (by kernel_rfl) (.int .i64 x.op) (by go_simp) ?_
          simp only [Act.put, List.setIfInBounds_toArray, List.set_cons_zero, List.set_cons_succ]
          by_cases h16_3 : x.op = 0
          · skip
            refine WL.val (by kernel_rfl) (.bool false) (by go_simp) ?_
            simp only [Act.put, List.setIfInBounds_toArray, List.set_cons_zero, List.set_cons_succ]
            refine WL.nil ?_
            refine hK29 _ _ ?_
            refine wp_cond_false rfl ?_
            refine wp_skip ?_
            refine hK7 _ _ ?_
            refine wp_region_list (WL.out ?_)
            refine WL.val (by kernel_rfl) (.int .i64 (t : Int)) (by go_simp) ?_
            simp only [Act.put, List.setIfInBounds_toArray, List.set_cons_zero, List.set_cons_succ]
            refine WL.val (by kernel_rfl) (.int .i64 ((t : Int) + 1)) (by go_simp) ?_
            simp only [Act.put, List.setIfInBounds_toArray, List.set_cons_zero, List.set_cons_succ]
            refine WL.val (by kernel_rfl) (.int .i64 ((t : Int) + 1)) (by go_simp) ?_
            simp only [Act.put, List.setIfInBounds_toArray, List.set_cons_zero, List.set_cons_succ]
            refine WL.nil ?_
            have hE : L0 ++ numL l.length ++ (l.take (t + 1)).flatMap oneF = L1 ++ [x.kind] ++ bform (lst x.key) ++ numL (zig x.n) ++ numL on := by
              rw [HFull.out]; unfold tl
              rw [if_neg (show ¬ txt x.kind = true by rw [q38]; decide), if_pos h11_2, if_pos q55, if_pos h16_3]
              rw [Hon.out]
              simp
            refine ⟨⟨t + 1, u_5, .pointer (some ⟨gx, 0, none⟩), .bool false, .bool true, .int .i64 (t : Int), .slice va l.length vc, .int .i64 (l.length : Int), .bool true, .int .i64 (t : Int), .int .i64 ((t : Int) + 1), .slice va l.length vc, .int .i64 (t : Int), .pointer (some ⟨gL, ofL + t * 37, none⟩), .agg (opA x), u0, .pointer (some ⟨gx, 0, none⟩), .int .i64 x.kind, .int .u8 x.kind, .slice (some ⟨w_0.heap.size, 0, none⟩) 1 1, u_1, u_1, .pointer (some ⟨gx, 1, none⟩), .string x.key, vb2, u_3, .pointer (some ⟨gx, 0, none⟩), .int .i64 x.kind, .bool false, .bool false, u39, u40, u41, u42, u43, .pointer (some ⟨gx, 0, none⟩), .int .i64 x.kind, .bool true, u_3, .pointer (some ⟨gx, 3, none⟩), .int .i64 x.n, .int .u64 (zig x.n : Int), u_4, .pointer (some ⟨gx, 0, none⟩), .int .i64 x.kind, .bool true, .bool true, u_4, .pointer (some ⟨gx, 4, none⟩), .pointer (some ⟨gx, 36, none⟩), .int .i64 x.op, .int .u64 (on : Int), u_5, .pointer (some ⟨gx, 4, none⟩), .pointer (some ⟨gx, 36, none⟩), .int .i64 x.op, .bool false, u66, u67, u68, u69, u70, rfl, by omega, by rw [hE]; exact H5.out⟩, ?_⟩
            simp only [intOf]; show l.length - ((t : Int) + 1).toNat < l.length - ((t : Int)).toNat; omega
          · skip
            refine WL.val (by kernel_rfl) (.bool true) (by go_simp) ?_
            simp only [Act.put, List.setIfInBounds_toArray, List.set_cons_zero, List.set_cons_succ]
            refine WL.nil ?_
            refine hK29 _ _ ?_
            refine wp_cond_true rfl ?_
            refine wp_region_list (WL.out ?_)
            refine WL.val (by kernel_rfl) (u_5) (by go_simp) ?_
            simp only [Act.put, List.setIfInBounds_toArray, List.set_cons_zero, List.set_cons_succ]
            refine WL.val (by kernel_rfl) (.pointer (some ⟨gx, 4, none⟩)) (by go_simp) ?_
            simp only [Act.put, List.setIfInBounds_toArray, List.set_cons_zero, List.set_cons_succ]
            refine WL.val (by kernel_rfl) (.pointer (some ⟨gx, 4, none⟩)) (by go_simp) ?_
            simp only [Act.put, List.setIfInBounds_toArray, List.set_cons_zero, List.set_cons_succ]
            refine WL.midA (by kernel_rfl) 29 (.tmp 68) rfl gx 4 rfl (bytesA 32 (hof x.node)) _ (opA_nodes X5.out) Try.underlying29 rfl (Try.size29B _) ?_
            simp only [Act.put, List.setIfInBounds_toArray, List.set_cons_zero, List.set_cons_succ]
            refine WL.callF (by kernel_rfl) 43 _ _ rfl Try.in43 #[u_5, .agg (bytesA 32 (hof x.node))] (by simp [Act.eval]) ?_
            refine (rhash_any u_5 (L1 ++ [x.kind] ++ bform (lst x.key) ++ numL (zig x.n) ++ numL on) (hof x.node) w_5 H5.out.own (by have := Hbd.out; unfold tl at this; rw [if_neg (show ¬ txt x.kind = true by rw [q38]; decide), if_pos h11_2, if_pos q55, if_neg h16_3] at this; rw [Hon.out] at this; simp only [hl_len, List.length_append, List.length_cons, List.length_nil] at this ⊢; omega)).mono ?_
            rintro e w_6 hp
            obtain ⟨u_6, rfl, hq1, hq2, hq3⟩ := hp
            refine ⟨_, rfl, ?_⟩
            have H6 := Keep.mk (H5.out.step hq1 hq2 hq3)
            have X6 := Keep.mk (own_keeps H5.out.own X5.out (by decide) hq3)
            clear hq1 hq2 hq3
            clear c5_0 c5_1 c5_2 c5_3 c5_36
            have c6_0 := X6.out.c 0 (opA_0 x)
            have c6_1 := X6.out.c 1 (opA_1 x)
            have c6_2 := X6.out.c 2 (opA_2 x)
            have c6_3 := X6.out.c 3 (opA_3 x)
            have c6_36 := X6.out.c 36 (opA_36 x)
            simp only [Act.put, List.setIfInBounds_toArray, List.set_cons_zero, List.set_cons_succ]
            refine WL.val (by kernel_rfl) (u_6) (by go_simp) ?_
            simp only [Act.put, List.setIfInBounds_toArray, List.set_cons_zero, List.set_cons_succ]
            refine WL.nil ?_
            refine hK7 _ _ ?_
            refine wp_region_list (WL.out ?_)
            refine WL.val (by kernel_rfl) (.int .i64 (t : Int)) (by go_simp) ?_
            simp only [Act.put, List.setIfInBounds_toArray, List.set_cons_zero, List.set_cons_succ]
            refine WL.val (by kernel_rfl) (.int .i64 ((t : Int) + 1)) (by go_simp) ?_
            simp only [Act.put, List.setIfInBounds_toArray, List.set_cons_zero, List.set_cons_succ]
            refine WL.val (by kernel_rfl) (.int .i64 ((t : Int) + 1)) (by go_simp) ?_
            simp only [Act.put, List.setIfInBounds_toArray, List.set_cons_zero, List.set_cons_succ]
            refine WL.nil ?_
            have hE : L0 ++ numL l.length ++ (l.take (t + 1)).flatMap oneF = L1 ++ [x.kind] ++ bform (lst x.key) ++ numL (zig x.n) ++ numL on ++ hl 32 (hof x.node) := by
              rw [HFull.out]; unfold tl
              rw [if_neg (show ¬ txt x.kind = true by rw [q38]; decide), if_pos h11_2, if_pos q55, if_neg h16_3]
              rw [Hon.out]
              simp
            refine ⟨⟨t + 1, u_6, .pointer (some ⟨gx, 0, none⟩), .bool false, .bool true, .int .i64 (t : Int), .slice va l.length vc, .int .i64 (l.length : Int), .bool true, .int .i64 (t : Int), .int .i64 ((t : Int) + 1), .slice va l.length vc, .int .i64 (t : Int), .pointer (some ⟨gL, ofL + t * 37, none⟩), .agg (opA x), u0, .pointer (some ⟨gx, 0, none⟩), .int .i64 x.kind, .int .u8 x.kind, .slice (some ⟨w_0.heap.size, 0, none⟩) 1 1, u_1, u_1, .pointer (some ⟨gx, 1, none⟩), .string x.key, vb2, u_3, .pointer (some ⟨gx, 0, none⟩), .int .i64 x.kind, .bool false, .bool false, u39, u40, u41, u42, u43, .pointer (some ⟨gx, 0, none⟩), .int .i64 x.kind, .bool true, u_3, .pointer (some ⟨gx, 3, none⟩), .int .i64 x.n, .int .u64 (zig x.n : Int), u_4, .pointer (some ⟨gx, 0, none⟩), .int .i64 x.kind, .bool true, .bool true, u_4, .pointer (some ⟨gx, 4, none⟩), .pointer (some ⟨gx, 36, none⟩), .int .i64 x.op, .int .u64 (on : Int), u_5, .pointer (some ⟨gx, 4, none⟩), .pointer (some ⟨gx, 36, none⟩), .int .i64 x.op, .bool true, u_5, .pointer (some ⟨gx, 4, none⟩), .pointer (some ⟨gx, 4, none⟩), .agg (bytesA 32 (hof x.node)), u_6, rfl, by omega, by rw [hE]; exact H6.out⟩, ?_⟩
            simp only [intOf]; show l.length - ((t : Int) + 1).toNat < l.length - ((t : Int)).toNat; omega
        · have q55 := h14_0
          rw [h14_0]
          refine WL.val (by kernel_rfl) (.bool false) (by go_simp) ?_
          simp only [Act.put, List.setIfInBounds_toArray, List.set_cons_zero, List.set_cons_succ]
          refine WL.nil ?_
          refine hK27 _ _ ?_
          refine wp_cond_false rfl ?_
          refine wp_skip ?_
          refine hK7 _ _ ?_
          refine wp_region_list (WL.out ?_)
          refine WL.val (by kernel_rfl) (.int .i64 (t : Int)) (by go_simp) ?_
          simp only [Act.put, List.setIfInBounds_toArray, List.set_cons_zero, List.set_cons_succ]
          refine WL.val (by kernel_rfl) (.int .i64 ((t : Int) + 1)) (by go_simp) ?_
          simp only [Act.put, List.setIfInBounds_toArray, List.set_cons_zero, List.set_cons_succ]
          refine WL.val (by kernel_rfl) (.int .i64 ((t : Int) + 1)) (by go_simp) ?_
          simp only [Act.put, List.setIfInBounds_toArray, List.set_cons_zero, List.set_cons_succ]
          refine WL.nil ?_
          have hE : L0 ++ numL l.length ++ (l.take (t + 1)).flatMap oneF = L1 ++ [x.kind] ++ bform (lst x.key) ++ numL (zig x.n) := by
            rw [HFull.out]; unfold tl
            rw [if_neg (show ¬ txt x.kind = true by rw [q38]; decide), if_pos h11_2, if_neg (show ¬ hat x.kind = true by rw [q55]; decide)]
            simp
          refine ⟨⟨t + 1, u_4, .pointer (some ⟨gx, 0, none⟩), .bool false, .bool false, .int .i64 (t : Int), .slice va l.length vc, .int .i64 (l.length : Int), .bool true, .int .i64 (t : Int), .int .i64 ((t : Int) + 1), .slice va l.length vc, .int .i64 (t : Int), .pointer (some ⟨gL, ofL + t * 37, none⟩), .agg (opA x), u0, .pointer (some ⟨gx, 0, none⟩), .int .i64 x.kind, .int .u8 x.kind, .slice (some ⟨w_0.heap.size, 0, none⟩) 1 1, u_1, u_1, .pointer (some ⟨gx, 1, none⟩), .string x.key, vb2, u_3, .pointer (some ⟨gx, 0, none⟩), .int .i64 x.kind, .bool false, .bool false, u39, u40, u41, u42, u43, .pointer (some ⟨gx, 0, none⟩), .int .i64 x.kind, .bool true, u_3, .pointer (some ⟨gx, 3, none⟩), .int .i64 x.n, .int .u64 (zig x.n : Int), u_4, .pointer (some ⟨gx, 0, none⟩), .int .i64 x.kind, .bool false, .bool false, u56, u57, u58, u59, u60, u61, u62, u63, u64, u65, u66, u67, u68, u69, u70, rfl, by omega, by rw [hE]; exact H4.out⟩, ?_⟩
          simp only [intOf]; show l.length - ((t : Int) + 1).toNat < l.length - ((t : Int)).toNat; omega
      · skip
        refine WL.val (by kernel_rfl) (.bool false) (by go_simp) ?_
        simp only [Act.put, List.setIfInBounds_toArray, List.set_cons_zero, List.set_cons_succ]
        refine WL.nil ?_
        refine hK25 _ _ ?_
        refine wp_cond_false rfl ?_
        refine wp_skip ?_
        refine hK24 _ _ ?_
        refine wp_seq_k fun K30 hK30 => ?_
        refine wp_region_list (WL.out ?_)
        refine WL.val (by kernel_rfl) (.pointer (some ⟨gx, 0, none⟩)) (by go_simp) ?_
        simp only [Act.put, List.setIfInBounds_toArray, List.set_cons_zero, List.set_cons_succ]
        refine WL.val (by kernel_rfl) (.int .i64 x.kind) (by go_simp) ?_
        simp only [Act.put, List.setIfInBounds_toArray, List.set_cons_zero, List.set_cons_succ]
        refine WL.callF (by kernel_rfl) 42 _ _ rfl Try.in42 #[.int .i64 x.kind] (by simp [Act.eval]) ?_
        refine (hasAt_any x.kind w_3).mono ?_
        rintro e w_y ⟨rfl, hwy⟩
        rw [hwy]
        clear hwy w_y
        refine ⟨_, rfl, ?_⟩
        simp only [Act.put, List.setIfInBounds_toArray, List.set_cons_zero, List.set_cons_succ]
        refine WL.val (by kernel_rfl) (.bool (hat x.kind)) (by go_simp) ?_
        simp only [Act.put, List.setIfInBounds_toArray, List.set_cons_zero, List.set_cons_succ]
        refine WL.nil ?_
        refine hK30 _ _ ?_
        refine wp_seq_k fun K31 hK31 => ?_
        refine wp_region_list (WL.out ?_)
        rcases Bool.eq_false_or_eq_true (hat x.kind) with h14_0 | h14_0
        · have q55 := h14_0
          rw [h14_0]
          refine WL.val (by kernel_rfl) (.bool true) (by go_simp) ?_
          simp only [Act.put, List.setIfInBounds_toArray, List.set_cons_zero, List.set_cons_succ]
          refine WL.nil ?_
          refine hK31 _ _ ?_
          refine wp_cond_true rfl ?_
          refine wp_seq_k fun K32 hK32 => ?_
          refine wp_region_list (WL.out ?_)
          refine WL.val (by kernel_rfl) (u_3) (by go_simp) ?_
          simp only [Act.put, List.setIfInBounds_toArray, List.set_cons_zero, List.set_cons_succ]
          refine WL.val (by kernel_rfl) (.pointer (some ⟨gx, 4, none⟩)) (by go_simp) ?_
          simp only [Act.put, List.setIfInBounds_toArray, List.set_cons_zero, List.set_cons_succ]
          refine WL.val (by kernel_rfl) (.pointer (some ⟨gx, 36, none⟩)) (by go_simp) ?_
          simp only [Act.put, List.setIfInBounds_toArray, List.set_cons_zero, List.set_cons_succ]
          refine WL.val (by kernel_rfl) (.int .i64 x.op) (by go_simp) ?_
          simp only [Act.put, List.setIfInBounds_toArray, List.set_cons_zero, List.set_cons_succ]
          obtain ⟨on, hon⟩ : ∃ on : Nat, Keep (x.op = (on : Int)) := ⟨x.op.toNat, ⟨by have := (HHat.out q55).1; omega⟩⟩
          have hwo : IntKind.u64.wrap x.op = (on : Int) := by rw [hon.out, IntKind.wrap_u64]; have := (HHat.out q55).2; have := hon.out; omega
          have Hon : Keep (x.op.toNat = on) := ⟨by rw [hon.out, Int.toNat_natCast]⟩
          refine WL.val (by kernel_rfl) (.int .u64 (on : Int)) (by go_simp) ?_
          simp only [Act.put, List.setIfInBounds_toArray, List.set_cons_zero, List.set_cons_succ]
          refine WL.callF (by kernel_rfl) 38 _ _ rfl Try.in38 #[u_3, .int .u64 (on : Int)] (by simp [Act.eval]) ?_
          refine (rnum_any u_3 (L1 ++ [x.kind] ++ bform (lst x.key)) on w_3 H3.out.own (by have := (HHat.out q55).2; have := hon.out; omega) (by have := Hbd.out; unfold tl at this; rw [if_neg (show ¬ txt x.kind = true by rw [q38]; decide), if_neg h11_2, if_pos q55] at this; rw [Hon.out] at this; simp only [List.length_append, List.length_cons, List.length_nil] at this ⊢; omega)).mono ?_
          rintro e w_4 hp
          obtain ⟨u_4, rfl, hq1, hq2, hq3⟩ := hp
          refine ⟨_, rfl, ?_⟩
          have H4 := Keep.mk (H3.out.step hq1 hq2 hq3)
          have X4 := Keep.mk (own_keeps H3.out.own X3.out (by decide) hq3)
          clear hq1 hq2 hq3
          clear c3_0 c3_1 c3_2 c3_3 c3_36
          have c4_0 := X4.out.c 0 (opA_0 x)
          have c4_1 := X4.out.c 1 (opA_1 x)
          have c4_2 := X4.out.c 2 (opA_2 x)
          have c4_3 := X4.out.c 3 (opA_3 x)
          have c4_36 := X4.out.c 36 (opA_36 x)
          simp only [Act.put, List.setIfInBounds_toArray, List.set_cons_zero, List.set_cons_succ]
          refine WL.val (by kernel_rfl) (u_4) (by go_simp) ?_
          simp only [Act.put, List.setIfInBounds_toArray, List.set_cons_zero, List.set_cons_succ]
          refine WL.nil ?_
          refine hK32 _ _ ?_
          refine wp_seq_k fun K33 hK33 => ?_
          refine wp_region_list (WL.out ?_)
          refine WL.val (by kernel_rfl) (.pointer (some ⟨gx, 4, none⟩)) (by go_simp) ?_
          simp only [Act.put, List.setIfInBounds_toArray, List.set_cons_zero, List.set_cons_succ]
          refine WL.val (by kernel_rfl) (.pointer (some ⟨gx, 36, none⟩)) (by go_simp) ?_
          simp only [Act.put, List.setIfInBounds_toArray, List.set_cons_zero, List.set_cons_succ]
          refine WL.val (by kernel_rfl) (.int .i64 x.op) (by go_simp) ?_
          simp only [Act.put, List.setIfInBounds_toArray, List.set_cons_zero, List.set_cons_succ]
          by_cases h16_3 : x.op = 0
          · skip
            refine WL.val (by kernel_rfl) (.bool false) (by go_simp) ?_
            simp only [Act.put, List.setIfInBounds_toArray, List.set_cons_zero, List.set_cons_succ]
            refine WL.nil ?_
            refine hK33 _ _ ?_
            refine wp_cond_false rfl ?_
            refine wp_skip ?_
            refine hK7 _ _ ?_
            refine wp_region_list (WL.out ?_)
            refine WL.val (by kernel_rfl) (.int .i64 (t : Int)) (by go_simp) ?_
            simp only [Act.put, List.setIfInBounds_toArray, List.set_cons_zero, List.set_cons_succ]
            refine WL.val (by kernel_rfl) (.int .i64 ((t : Int) + 1)) (by go_simp) ?_
            simp only [Act.put, List.setIfInBounds_toArray, List.set_cons_zero, List.set_cons_succ]
            refine WL.val (by kernel_rfl) (.int .i64 ((t : Int) + 1)) (by go_simp) ?_
            simp only [Act.put, List.setIfInBounds_toArray, List.set_cons_zero, List.set_cons_succ]
            refine WL.nil ?_
            have hE : L0 ++ numL l.length ++ (l.take (t + 1)).flatMap oneF = L1 ++ [x.kind] ++ bform (lst x.key) ++ numL on := by
              rw [HFull.out]; unfold tl
              rw [if_neg (show ¬ txt x.kind = true by rw [q38]; decide), if_neg h11_2, if_pos q55, if_pos h16_3]
              rw [Hon.out]
              simp
            refine ⟨⟨t + 1, u_4, .pointer (some ⟨gx, 0, none⟩), .bool false, .bool true, .int .i64 (t : Int), .slice va l.length vc, .int .i64 (l.length : Int), .bool true, .int .i64 (t : Int), .int .i64 ((t : Int) + 1), .slice va l.length vc, .int .i64 (t : Int), .pointer (some ⟨gL, ofL + t * 37, none⟩), .agg (opA x), u0, .pointer (some ⟨gx, 0, none⟩), .int .i64 x.kind, .int .u8 x.kind, .slice (some ⟨w_0.heap.size, 0, none⟩) 1 1, u_1, u_1, .pointer (some ⟨gx, 1, none⟩), .string x.key, vb2, u_3, .pointer (some ⟨gx, 0, none⟩), .int .i64 x.kind, .bool false, .bool false, u39, u40, u41, u42, u43, .pointer (some ⟨gx, 0, none⟩), .int .i64 x.kind, .bool false, u47, u48, u49, u50, u51, .pointer (some ⟨gx, 0, none⟩), .int .i64 x.kind, .bool true, .bool true, u_3, .pointer (some ⟨gx, 4, none⟩), .pointer (some ⟨gx, 36, none⟩), .int .i64 x.op, .int .u64 (on : Int), u_4, .pointer (some ⟨gx, 4, none⟩), .pointer (some ⟨gx, 36, none⟩), .int .i64 x.op, .bool false, u66, u67, u68, u69, u70, rfl, by omega, by rw [hE]; exact H4.out⟩, ?_⟩
            simp only [intOf]; show l.length - ((t : Int) + 1).toNat < l.length - ((t : Int)).toNat; omega
          · skip
            refine WL.val (by kernel_rfl) (.bool true) (by go_simp) ?_
            simp only [Act.put, List.setIfInBounds_toArray, List.set_cons_zero, List.set_cons_succ]
            refine WL.nil ?_
            refine hK33 _ _ ?_
            refine wp_cond_true rfl ?_
            refine wp_region_list (WL.out ?_)
            refine WL.val (by kernel_rfl) (u_4) (by go_simp) ?_
            simp only [Act.put, List.setIfInBounds_toArray, List.set_cons_zero, List.set_cons_succ]
            refine WL.val (by kernel_rfl) (.pointer (some ⟨gx, 4, none⟩)) (by go_simp) ?_
            simp only [Act.put, List.setIfInBounds_toArray, List.set_cons_zero, List.set_cons_succ]
            refine WL.val (by kernel_rfl) (.pointer (some ⟨gx, 4, none⟩)) (by go_simp) ?_
            simp only [Act.put, List.setIfInBounds_toArray, List.set_cons_zero, List.set_cons_succ]
            refine WL.midA (by kernel_rfl) 29 (.tmp 68) rfl gx 4 rfl (bytesA 32 (hof x.node)) _ (opA_nodes X4.out) Try.underlying29 rfl (Try.size29B _) ?_
            simp only [Act.put, List.setIfInBounds_toArray, List.set_cons_zero, List.set_cons_succ]
            refine WL.callF (by kernel_rfl) 43 _ _ rfl Try.in43 #[u_4, .agg (bytesA 32 (hof x.node))] (by simp [Act.eval]) ?_
            refine (rhash_any u_4 (L1 ++ [x.kind] ++ bform (lst x.key) ++ numL on) (hof x.node) w_4 H4.out.own (by have := Hbd.out; unfold tl at this; rw [if_neg (show ¬ txt x.kind = true by rw [q38]; decide), if_neg h11_2, if_pos q55, if_neg h16_3] at this; rw [Hon.out] at this; simp only [hl_len, List.length_append, List.length_cons, List.length_nil] at this ⊢; omega)).mono ?_
            rintro e w_5 hp
            obtain ⟨u_5, rfl, hq1, hq2, hq3⟩ := hp
            refine ⟨_, rfl, ?_⟩
            have H5 := Keep.mk (H4.out.step hq1 hq2 hq3)
            have X5 := Keep.mk (own_keeps H4.out.own X4.out (by decide) hq3)
            clear hq1 hq2 hq3
            clear c4_0 c4_1 c4_2 c4_3 c4_36
            have c5_0 := X5.out.c 0 (opA_0 x)
            have c5_1 := X5.out.c 1 (opA_1 x)
            have c5_2 := X5.out.c 2 (opA_2 x)
            have c5_3 := X5.out.c 3 (opA_3 x)
            have c5_36 := X5.out.c 36 (opA_36 x)
            simp only [Act.put, List.setIfInBounds_toArray, List.set_cons_zero, List.set_cons_succ]
            refine WL.val (by kernel_rfl) (u_5) (by go_simp) ?_
            simp only [Act.put, List.setIfInBounds_toArray, List.set_cons_zero, List.set_cons_succ]
            refine WL.nil ?_
            refine hK7 _ _ ?_
            refine wp_region_list (WL.out ?_)
            refine WL.val (by kernel_rfl) (.int .i64 (t : Int)) (by go_simp) ?_
            simp only [Act.put, List.setIfInBounds_toArray, List.set_cons_zero, List.set_cons_succ]
            refine WL.val (by kernel_rfl) (.int .i64 ((t : Int) + 1)) (by go_simp) ?_
            simp only [Act.put, List.setIfInBounds_toArray, List.set_cons_zero, List.set_cons_succ]
            refine WL.val (by kernel_rfl) (.int .i64 ((t : Int) + 1)) (by go_simp) ?_
            simp only [Act.put, List.setIfInBounds_toArray, List.set_cons_zero, List.set_cons_succ]
            refine WL.nil ?_
            have hE : L0 ++ numL l.length ++ (l.take (t + 1)).flatMap oneF = L1 ++ [x.kind] ++ bform (lst x.key) ++ numL on ++ hl 32 (hof x.node) := by
              rw [HFull.out]; unfold tl
              rw [if_neg (show ¬ txt x.kind = true by rw [q38]; decide), if_neg h11_2, if_pos q55, if_neg h16_3]
              rw [Hon.out]
              simp
            refine ⟨⟨t + 1, u_5, .pointer (some ⟨gx, 0, none⟩), .bool false, .bool true, .int .i64 (t : Int), .slice va l.length vc, .int .i64 (l.length : Int), .bool true, .int .i64 (t : Int), .int .i64 ((t : Int) + 1), .slice va l.length vc, .int .i64 (t : Int), .pointer (some ⟨gL, ofL + t * 37, none⟩), .agg (opA x), u0, .pointer (some ⟨gx, 0, none⟩), .int .i64 x.kind, .int .u8 x.kind, .slice (some ⟨w_0.heap.size, 0, none⟩) 1 1, u_1, u_1, .pointer (some ⟨gx, 1, none⟩), .string x.key, vb2, u_3, .pointer (some ⟨gx, 0, none⟩), .int .i64 x.kind, .bool false, .bool false, u39, u40, u41, u42, u43, .pointer (some ⟨gx, 0, none⟩), .int .i64 x.kind, .bool false, u47, u48, u49, u50, u51, .pointer (some ⟨gx, 0, none⟩), .int .i64 x.kind, .bool true, .bool true, u_3, .pointer (some ⟨gx, 4, none⟩), .pointer (some ⟨gx, 36, none⟩), .int .i64 x.op, .int .u64 (on : Int), u_4, .pointer (some ⟨gx, 4, none⟩), .pointer (some ⟨gx, 36, none⟩), .int .i64 x.op, .bool true, u_4, .pointer (some ⟨gx, 4, none⟩), .pointer (some ⟨gx, 4, none⟩), .agg (bytesA 32 (hof x.node)), u_5, rfl, by omega, by rw [hE]; exact H5.out⟩, ?_⟩
            simp only [intOf]; show l.length - ((t : Int) + 1).toNat < l.length - ((t : Int)).toNat; omega
        · have q55 := h14_0
          rw [h14_0]
          refine WL.val (by kernel_rfl) (.bool false) (by go_simp) ?_
          simp only [Act.put, List.setIfInBounds_toArray, List.set_cons_zero, List.set_cons_succ]
          refine WL.nil ?_
          refine hK31 _ _ ?_
          refine wp_cond_false rfl ?_
          refine wp_skip ?_
          refine hK7 _ _ ?_
          refine wp_region_list (WL.out ?_)
          refine WL.val (by kernel_rfl) (.int .i64 (t : Int)) (by go_simp) ?_
          simp only [Act.put, List.setIfInBounds_toArray, List.set_cons_zero, List.set_cons_succ]
          refine WL.val (by kernel_rfl) (.int .i64 ((t : Int) + 1)) (by go_simp) ?_
          simp only [Act.put, List.setIfInBounds_toArray, List.set_cons_zero, List.set_cons_succ]
          refine WL.val (by kernel_rfl) (.int .i64 ((t : Int) + 1)) (by go_simp) ?_
          simp only [Act.put, List.setIfInBounds_toArray, List.set_cons_zero, List.set_cons_succ]
          refine WL.nil ?_
          have hE : L0 ++ numL l.length ++ (l.take (t + 1)).flatMap oneF = L1 ++ [x.kind] ++ bform (lst x.key) := by
            rw [HFull.out]; unfold tl
            rw [if_neg (show ¬ txt x.kind = true by rw [q38]; decide), if_neg h11_2, if_neg (show ¬ hat x.kind = true by rw [q55]; decide)]
            simp
          refine ⟨⟨t + 1, u_3, .pointer (some ⟨gx, 0, none⟩), .bool false, .bool false, .int .i64 (t : Int), .slice va l.length vc, .int .i64 (l.length : Int), .bool true, .int .i64 (t : Int), .int .i64 ((t : Int) + 1), .slice va l.length vc, .int .i64 (t : Int), .pointer (some ⟨gL, ofL + t * 37, none⟩), .agg (opA x), u0, .pointer (some ⟨gx, 0, none⟩), .int .i64 x.kind, .int .u8 x.kind, .slice (some ⟨w_0.heap.size, 0, none⟩) 1 1, u_1, u_1, .pointer (some ⟨gx, 1, none⟩), .string x.key, vb2, u_3, .pointer (some ⟨gx, 0, none⟩), .int .i64 x.kind, .bool false, .bool false, u39, u40, u41, u42, u43, .pointer (some ⟨gx, 0, none⟩), .int .i64 x.kind, .bool false, u47, u48, u49, u50, u51, .pointer (some ⟨gx, 0, none⟩), .int .i64 x.kind, .bool false, .bool false, u56, u57, u58, u59, u60, u61, u62, u63, u64, u65, u66, u67, u68, u69, u70, rfl, by omega, by rw [hE]; exact H3.out⟩, ?_⟩
          simp only [intOf]; show l.length - ((t : Int) + 1).toNat < l.length - ((t : Int)).toNat; omega
  · have hte : Keep (t = l.length) := ⟨by omega⟩
    have htl' : ¬ (t : Int) < (l.length : Int) := by omega
    refine wp_seq_k fun K34 hK34 => ?_
    refine wp_seq_k fun K35 hK35 => ?_
    refine wp_region_list (WL.out ?_)
    refine WL.val (by kernel_rfl) (.int .i64 (t : Int)) (by go_simp) ?_
    simp only [Act.put, List.setIfInBounds_toArray, List.set_cons_zero, List.set_cons_succ]
    refine WL.val (by kernel_rfl) (.slice va l.length vc) (by go_simp) ?_
    simp only [Act.put, List.setIfInBounds_toArray, List.set_cons_zero, List.set_cons_succ]
    refine WL.val (by kernel_rfl) (.int .i64 (l.length : Int)) (by go_simp) ?_
    simp only [Act.put, List.setIfInBounds_toArray, List.set_cons_zero, List.set_cons_succ]
    refine WL.val (by kernel_rfl) (.bool false) (by go_simp) ?_
    simp only [Act.put, List.setIfInBounds_toArray, List.set_cons_zero, List.set_cons_succ]
    refine WL.nil ?_
    refine hK35 _ _ ?_
    refine wp_cond_false rfl ?_
    refine wp_exit ?_
    refine hK3 _ _ ?_
    refine wp_seq_k fun K36 hK36 => ?_
    refine wp_region_list (WL.out ?_)
    refine WL.val (by kernel_rfl) (u0) (by go_simp) ?_
    simp only [Act.put, List.setIfInBounds_toArray, List.set_cons_zero, List.set_cons_succ]
    refine WL.val (by kernel_rfl) (u0) (by go_simp) ?_
    simp only [Act.put, List.setIfInBounds_toArray, List.set_cons_zero, List.set_cons_succ]
    refine WL.nil ?_
    refine hK36 _ _ ?_
    refine wp_ret ?_
    go_ret
    rw [hte.out, List.take_length, List.append_assoc] at hS
    exact ⟨_, rfl, hS.own, hS.mv, hS.gr⟩

end Go.Proofs.Ytbkboebinhafhaa
