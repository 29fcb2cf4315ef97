import Derived.Test.YtgpgnldcdimmbaaK10
import Derived.Test.YtgpgnldcdimmbaaK08
import Derived.Test.YtgpgnldcdimmbaaK11
import Derived.Test.YtgpgnldcdimmbaaK09
namespace Go.Proofs.Ytgpgnldcdimmbaa
open Go.RowKit
set_option linter.unusedSimpArgs false

theorem WL.app {ops : Array Oper} {rest : List Oper} {o : Oper} {a : Act} {w : World} {Q : Exit → Act → World → Prop} (hw : Region.wanted o (yielded ops a.tmps) = true) (s x : Operand)
    (ho : o.op = .call { callee := .builtin .append, args := #[s, x], argTypes := #[28, 28] }) (v vx : Value) (l m : List Int)
    (hs : a.eval s = v) (hx : a.eval x = vx) (hown : Own w v l) (hrow : RowAt w vx m) (hb : l.length + m.length ≤ 200000000000000)
    (h : ∀ v' w', AppPost w v (l ++ m) v' w' → WL Try.prog ops Q rest (a.put o.dst v') w') : WL Try.prog ops Q (o :: rest) a w :=
  ⟨wpList_wanted hw fun K hK => by
    obtain ⟨v', w', hr, h2⟩ := run_app_row w o.type v vx l m hown hrow hb
    unfold Oper.wp execOp
    simp only [ho, resolve, invoke, builtin, Sem.run_bind, Sem.run_pure, Result.andThen_ok, List.map_toArray, List.map_cons, List.map_nil, hs, hx, hr]
    exact hK _ _ (h v' w' h2).out⟩
theorem WL.bytes {ops : Array Oper} {rest : List Oper} {o : Oper} {a : Act} {w : World} {Q : Exit → Act → World → Prop} (hw : Region.wanted o (yielded ops a.tmps) = true) (x : Operand) (ho : o.op = .convert 9 28 x) (s : ByteArray) (hx : a.eval x = .string s) (hb : s.size ≤ 140737488355328)
    (h : ∀ v w', OwnT w' v (lst s) → v.ownBlock = some w.heap.size → Below w.heap.size w w' → WL Try.prog ops Q rest (a.put o.dst v) w') : WL Try.prog ops Q (o :: rest) a w := by
  obtain ⟨v, w', h1, h2, h3, h4⟩ := conv_bytes w s hb
  refine WL.valW hw v w' ?_ (h v w' h2 h3 h4)
  unfold execOp
  simp only [ho, hx, Sem.run_bind, h1, Result.andThen_ok]
  rfl
structure LS (w0 : World) (v0 : Value) (L : List Int) (u : Value) (w : World) : Prop where
  own : Own w u L
  mv : Moved w0 v0 u
  gr : Grown w0 w fun k => v0.ownBlock = some k
theorem LS.step {w0 : World} {v0 : Value} {L L' : List Int} {u u' : Value} {w w' : World} (h : LS w0 v0 L u w) (h1 : Own w' u' L') (h2 : Moved w u u') (h3 : Grown w w' fun k => u.ownBlock = some k) : LS w0 v0 L' u' w' :=
  ⟨h1, h.mv.trans h.gr.size h2, h.gr.next h3 fun _ hk ho => h.mv.old hk ho⟩
theorem LS.below {w0 : World} {v0 : Value} {L : List Int} {u : Value} {w w' : World} (h : LS w0 v0 L u w) (hb : Below w.heap.size w w') : LS w0 v0 L u w' :=
  ⟨h.own.grown (Grown.below (S := fun _ => False) hb) (fun _ _ h => h), h.mv, h.gr.next (Grown.below hb (S := fun _ => False)) (fun _ _ h => h.elim)⟩
theorem own_keeps {w w' : World} {u : Value} {L : List Int} (h : Own w u L) {g : Nat} {T : TypeId} {cs : Array Value} (hb : Blk w g T cs) (hT : T ≠ 5) (h3 : Grown w w' fun k => u.ownBlock = some k) : Blk w' g T cs := h3.blk hb fun e => h.ne hb hT e
theorem bsB (c : Int) (w : World) : (Instr.buildSlice 28 1 #[(0, .int .u8 c)]).run Try.prog w = .ok (.slice (some ⟨w.heap.size, 0, none⟩) 1 1) (w.alloc (.cells #[.int .u8 c] 5)) := by kernel_rfl
set_option maxRecDepth 8000 in
set_option maxHeartbeats 4000000 in
theorem rput_anyE (v : Value) (L0 : List Int) (vl : Value) (l : List OpV) (w : World) (h : Own w v L0) (hl : OpsAt w vl l) (hok : ∀ x ∈ l, OpOk x)
    (hsep : l ≠ [] → ∀ k, vl.ownBlock = some k → v.ownBlock ≠ some k) (hC : (chk l).1 = 0) (hbb : L0.length + (formL l).length ≤ 200000000000000) :
    Calls Try.prog 49 #[v, vl] w (LayPost v (L0 ++ formL l) w) := by
  obtain ⟨va, vc, rfl⟩ := hl.form
  have HO := Keep.mk h
  have HL := Keep.mk hl
  have Hok := Keep.mk hok
  have Hsep := Keep.mk hsep
  have Hbb := Keep.mk hbb
  have Hok2 := Keep.mk (chk_ok hC)
  have Hlb : Keep (l.length ≤ 4398046511104) := ⟨by have := Hok2.out.1; omega⟩
  have hb' : (l.length : Int) ≤ 9223372036854775807 := by have := Hlb.out; omega
  have hwl : IntKind.u64.wrap (l.length : Int) = (l.length : Int) := by rw [IntKind.wrap_u64]; have := Hlb.out; omega
  clear h hl hok hsep hbb hC
  go_enter Try.func49, Try.ntmps49
  refine wp_seq_k fun K1 hK1 => ?_
  refine wp_region_list (WL.out ?_)
  refine WL.val (by kernel_rfl) (.slice none 0 0) (by go_simp) ?_
  simp only [Act.put, List.setIfInBounds_toArray, List.set_cons_zero, List.set_cons_succ]
  refine WL.nil ?_
  refine hK1 _ _ ?_
  refine wp_seq_k fun K2 hK2 => ?_
  refine wp_region_list (WL.out ?_)
  refine WL.val (by kernel_rfl) (v) (by go_simp) ?_
  simp only [Act.put, List.setIfInBounds_toArray, List.set_cons_zero, List.set_cons_succ]
  refine WL.val (by kernel_rfl) (.slice va l.length vc) (by go_simp) ?_
  simp only [Act.put, List.setIfInBounds_toArray, List.set_cons_zero, List.set_cons_succ]
  refine WL.val (by kernel_rfl) (.int .i64 (l.length : Int)) (by go_simp) ?_
  simp only [Act.put, List.setIfInBounds_toArray, List.set_cons_zero, List.set_cons_succ]
  refine WL.val (by kernel_rfl) (.int .u64 (l.length : Int)) (by go_simp) ?_
  simp only [Act.put, List.setIfInBounds_toArray, List.set_cons_zero, List.set_cons_succ]
  refine WL.callF (by kernel_rfl) 47 _ _ rfl Try.in47 #[v, .int .u64 (l.length : Int)] (by simp [Act.eval]) ?_
  refine (rnum_any v L0 l.length w HO.out (by have := Hlb.out; omega) (by have := Hbb.out; unfold formL at this; rw [List.length_append] at this; omega)).mono ?_
  rintro e w1 hp
  obtain ⟨v1, rfl, hq1, hq2, hq3⟩ := hp
  refine ⟨_, rfl, ?_⟩
  have HS1 : Keep (LS w v (L0 ++ numL l.length) v1 w1) := ⟨⟨hq1, hq2, hq3⟩⟩
  clear hq1 hq2 hq3
  simp only [Act.put, List.setIfInBounds_toArray, List.set_cons_zero, List.set_cons_succ]
  refine WL.val (by kernel_rfl) (v1) (by go_simp) ?_
  simp only [Act.put, List.setIfInBounds_toArray, List.set_cons_zero, List.set_cons_succ]
  refine WL.nil ?_
  refine hK2 _ _ ?_
  refine wp_seq_k fun K3 hK3 => ?_
  refine wp_seq_k fun K4 hK4 => ?_
  refine wp_region_list (WL.out ?_)
  refine WL.val (by kernel_rfl) (.int .i64 0) (by go_simp) ?_
  simp only [Act.put, List.setIfInBounds_toArray, List.set_cons_zero, List.set_cons_succ]
  refine WL.nil ?_
  refine hK4 _ _ ?_
  refine wp_block ?_
  refine wp_loop (fun a wr => ∃ (t : Nat) (u0 u6 u7 u8 u14 u15 u16 u17 u18 u19 u20 u21 u22 u23 u24 u25 u26 u27 u28 u29 u30 u31 u32 u33 u34 u35 u36 u37 u38 u39 u40 u41 u42 u43 u44 u45 u46 u47 u48 u49 u50 u51 u52 u53 u54 u55 u56 u57 u58 u59 u60 u61 u62 u63 u64 u65 u66 u67 u68 u69 u70 : Value), a = { tmps := #[u0, .slice va l.length vc, undef, undef, .slice none 0 0, .int .i64 (t : Int), u6, u7, u8, v, .slice va l.length vc, .int .i64 (l.length : Int), .int .u64 (l.length : Int), v1, u14, u15, u16, u17, u18, u19, u20, u21, u22, u23, u24, u25, u26, u27, u28, u29, u30, u31, u32, u33, u34, u35, u36, u37, u38, u39, u40, u41, u42, u43, u44, u45, u46, u47, u48, u49, u50, u51, u52, u53, u54, u55, u56, u57, u58, u59, u60, u61, u62, u63, u64, u65, u66, u67, u68, u69, u70, undef], defers := [] } ∧ t ≤ l.length ∧ LS w v (L0 ++ numL l.length ++ (l.take t).flatMap oneF) u0 wr) (fun a _ => l.length - (intOf (a.tmps.getD 5 undef)).toNat) ⟨0, v1, undef, undef, undef, undef, undef, undef, undef, undef, undef, undef, undef, undef, undef, undef, undef, undef, undef, undef, undef, undef, undef, undef, undef, undef, undef, undef, undef, undef, undef, undef, undef, undef, undef, undef, undef, undef, undef, undef, undef, undef, undef, undef, undef, undef, undef, undef, undef, undef, undef, undef, undef, undef, undef, undef, undef, undef, undef, undef, undef, undef, rfl, by omega, by rw [List.take_zero, List.flatMap_nil, List.append_nil]; exact HS1.out⟩ ?_
  rintro a wr ⟨t, u0, u6, u7, u8, u14, u15, u16, u17, u18, u19, u20, u21, u22, u23, u24, u25, u26, u27, u28, u29, u30, u31, u32, u33, u34, u35, u36, u37, u38, u39, u40, u41, u42, u43, u44, u45, u46, u47, u48, u49, u50, u51, u52, u53, u54, u55, u56, u57, u58, u59, u60, u61, u62, u63, u64, u65, u66, u67, u68, u69, u70, rfl, ht, hS⟩
  by_cases htl : t < l.length
  · have htl' : (t : Int) < (l.length : Int) := by omega
    have hLr := HL.out.grown hS.gr (fun b hb _ => Hsep.out (fun e => by rw [e] at htl; exact absurd htl (by simp)) b hb)
    obtain ⟨gL, ofL, hva, hr⟩ := hLr.at htl
    have hgx : l[t]? = some (l.getD t zeroOp) := by simp [List.getD_eq_getElem?_getD, htl]
    have hwx := wrongV_ok (Hok2.out.2 t _ hgx)
    have hmem : l.getD t zeroOp ∈ l := List.mem_of_getElem? hgx
    have Hx := Keep.mk (Hok.out _ hmem)
    have hnx := fm_next oneF l t htl zeroOp
    have hln := fm_len oneF l (t + 1)
    generalize l.getD t zeroOp = x at *
    have hkr := hasI_rng hwx.1
    have hwk : IntKind.u8.wrap x.kind = x.kind := by rw [IntKind.wrap_u8]; omega
    have HHat : Keep (hat x.kind = true → 0 ≤ x.op ∧ x.op ≤ 1024) := ⟨fun h => mayAt_op (by rw [List.length_take]; have := Hok2.out.1; omega) (hwx.2.2.2.2 ((hat_eq x hwx.1).mpr h))⟩
    have hone := oneF_eq x hwx.1
    have hwr1 : IntKind.i64.wrap ((t : Int) + 1) = (t : Int) + 1 := by rw [IntKind.wrap_i64]; have := Hlb.out; omega
    obtain ⟨L1, hL1⟩ : ∃ L1, Keep (L1 = L0 ++ numL l.length ++ (l.take t).flatMap oneF) := ⟨_, ⟨rfl⟩⟩
    rw [← hL1.out] at hS
    have HFull : Keep (L0 ++ numL l.length ++ (l.take (t + 1)).flatMap oneF = L1 ++ [x.kind] ++ bform (lst x.key) ++ tl x) := ⟨by rw [hnx, hone, hL1.out]; simp⟩
    have Hbd : Keep ((L1 ++ [x.kind] ++ bform (lst x.key) ++ tl x).length ≤ 200000000000000) := ⟨by
      rw [← HFull.out, List.length_append, List.length_append]
      have := Hbb.out
      unfold formL at this
      rw [List.length_append] at this
      omega⟩
    have HS := Keep.mk hS
    clear hS hLr hgx hwx hmem hnx hln hkr hone
    refine wp_seq_k fun K5 hK5 => ?_
    refine wp_seq_k fun K6 hK6 => ?_
    refine wp_region_list (WL.out ?_)
    refine WL.val (by kernel_rfl) (.int .i64 (t : Int)) (by go_simp) ?_
    simp only [Act.put, List.setIfInBounds_toArray, List.set_cons_zero, List.set_cons_succ]
    refine WL.val (by kernel_rfl) (.slice va l.length vc) (by go_simp) ?_
    simp only [Act.put, List.setIfInBounds_toArray, List.set_cons_zero, List.set_cons_succ]
    refine WL.val (by kernel_rfl) (.int .i64 (l.length : Int)) (by go_simp) ?_
    simp only [Act.put, List.setIfInBounds_toArray, List.set_cons_zero, List.set_cons_succ]
    refine WL.val (by kernel_rfl) (.bool true) (by go_simp) ?_
    simp only [Act.put, List.setIfInBounds_toArray, List.set_cons_zero, List.set_cons_succ]
    refine WL.nil ?_
    refine hK6 _ _ ?_
    refine wp_cond_true rfl ?_
    refine wp_skip ?_
    refine hK5 _ _ ?_
    refine wp_seq_k fun K7 hK7 => ?_
    refine wp_block ?_
    refine wp_seq_k fun K8 hK8 => ?_
    refine wp_region_list (WL.out ?_)
    refine WL.val (by kernel_rfl) (.slice va l.length vc) (by go_simp) ?_
    simp only [Act.put, List.setIfInBounds_toArray, List.set_cons_zero, List.set_cons_succ]
    refine WL.val (by kernel_rfl) (.int .i64 (t : Int)) (by go_simp) ?_
    simp only [Act.put, List.setIfInBounds_toArray, List.set_cons_zero, List.set_cons_succ]
    refine WL.val (by kernel_rfl) (.pointer (some ⟨gL, ofL + t * 37, none⟩)) (by go_simp) ?_
    simp only [Act.put, List.setIfInBounds_toArray, List.set_cons_zero, List.set_cons_succ]
    refine WL.mid (by kernel_rfl) 79 (.tmp 22) rfl gL (ofL + t * 37) rfl (opL x) _ hr Try.underlying79 rfl (Try.size79L x) ?_
    rw [rng_load]
    simp only [Act.put, List.setIfInBounds_toArray, List.set_cons_zero, List.set_cons_succ]
    refine WL.new (by kernel_rfl) 79 rfl _ Try.new79 ?_
    simp only [Act.put, List.setIfInBounds_toArray, List.set_cons_zero, List.set_cons_succ]
    refine WL.storeR (by kernel_rfl) 79 (.tmp 6) (.tmp 23) rfl wr.heap.size (opA x) rfl rfl 79 (opA zeroOp) (Blk.new wr 79 _) (Try.size79B x) (opA_sizes _ _) (opA_one x) ?_
    have X0 := Keep.mk ((Blk.new wr 79 (opA zeroOp)).setRow (opA x))
    have HGr : Keep (Below wr.heap.size wr ((wr.alloc (.cells (opA zeroOp) 79)).setRow wr.heap.size (opA x))) := ⟨below_setRow (below_new wr _) (Nat.le_refl _) _⟩
    generalize (wr.alloc (.cells (opA zeroOp) 79)).setRow wr.heap.size (opA x) = w_0 at *
    obtain ⟨gx, hgx⟩ : ∃ gx, Keep (gx = wr.heap.size) := ⟨_, ⟨rfl⟩⟩
    rw [← hgx.out] at X0 ⊢
    have H0 := Keep.mk (HS.out.below HGr.out)
    have c0_0 := X0.out.c 0 (opA_0 x)
    have c0_1 := X0.out.c 1 (opA_1 x)
    have c0_2 := X0.out.c 2 (opA_2 x)
    have c0_3 := X0.out.c 3 (opA_3 x)
    have c0_36 := X0.out.c 36 (opA_36 x)
    simp only [Act.put]
    refine WL.nil ?_
    refine hK8 _ _ ?_
    refine wp_seq_k fun K9 hK9 => ?_
    refine wp_region_list (WL.out ?_)
    refine WL.val (by kernel_rfl) (u0) (by go_simp) ?_
    simp only [Act.put, List.setIfInBounds_toArray, List.set_cons_zero, List.set_cons_succ]
    refine WL.val (by kernel_rfl) (.pointer (some ⟨gx, 0, none⟩)) (by go_simp) ?_
    simp only [Act.put, List.setIfInBounds_toArray, List.set_cons_zero, List.set_cons_succ]
    refine WL.val (by kernel_rfl) (.int .i64 x.kind) (by go_simp) ?_
    simp only [Act.put, List.setIfInBounds_toArray, List.set_cons_zero, List.set_cons_succ]
    refine WL.val (by kernel_rfl) (.int .u8 x.kind) (by go_simp) ?_
    simp only [Act.put, List.setIfInBounds_toArray, List.set_cons_zero, List.set_cons_succ]
    refine WL.bs (by kernel_rfl) 28 1 _ rfl #[(0, .int .u8 x.kind)] (by simp [Act.eval]) _ _ (bsB x.kind w_0) ?_
    simp only [Act.put, List.setIfInBounds_toArray, List.set_cons_zero, List.set_cons_succ]
    refine WL.app (by kernel_rfl) (.tmp 24) (.tmp 28) rfl u0 (.slice (some ⟨w_0.heap.size, 0, none⟩) 1 1) L1 [x.kind] rfl rfl (H0.out.own.box _) (row_one w_0 x.kind) (by have := Hbd.out; simp only [List.length_append, List.length_cons, List.length_nil] at this ⊢; omega) ?_
    intro u_1 w_1 hap
    obtain ⟨hq1, hq2, hq3⟩ := hap.box
    have H1 := Keep.mk (H0.out.step hq1 hq2 hq3)
    have X1 := Keep.mk (own_keeps H0.out.own X0.out (by decide) hq3)
    clear hq1 hq2 hq3 hap
    clear c0_0 c0_1 c0_2 c0_3 c0_36
    have c1_0 := X1.out.c 0 (opA_0 x)
    have c1_1 := X1.out.c 1 (opA_1 x)
    have c1_2 := X1.out.c 2 (opA_2 x)
    have c1_3 := X1.out.c 3 (opA_3 x)
    have c1_36 := X1.out.c 36 (opA_36 x)
    simp only [Act.put, List.setIfInBounds_toArray, List.set_cons_zero, List.set_cons_succ]
    refine WL.val (by kernel_rfl) (u_1) (by go_simp) ?_
    simp only [Act.put, List.setIfInBounds_toArray, List.set_cons_zero, List.set_cons_succ]
    refine WL.nil ?_
    refine hK9 _ _ ?_
    refine wp_seq_k fun K10 hK10 => ?_
    refine wp_region_list (WL.out ?_)
    refine WL.val (by kernel_rfl) (u_1) (by go_simp) ?_
    simp only [Act.put, List.setIfInBounds_toArray, List.set_cons_zero, List.set_cons_succ]
    refine WL.val (by kernel_rfl) (.pointer (some ⟨gx, 1, none⟩)) (by go_simp) ?_
    simp only [Act.put, List.setIfInBounds_toArray, List.set_cons_zero, List.set_cons_succ]
    refine WL.val (by kernel_rfl) (.string x.key) (by go_simp) ?_
    simp only [Act.put, List.setIfInBounds_toArray, List.set_cons_zero, List.set_cons_succ]
    refine WL.bytes (by kernel_rfl) (.tmp 32) rfl x.key rfl Hx.out.key ?_
    intro vb2 w_2 hb1 hb2 hb3
    have R2 := Keep.mk hb1
    have S2 : Keep (∀ k, vb2.ownBlock = some k → u_1.ownBlock ≠ some k) := ⟨fun k hk ho => by rw [hb2] at hk; injection hk with hk; have := H1.out.own.lt k ho; omega⟩
    have H2 := Keep.mk (H1.out.below hb3)
    have X2 := Keep.mk (X1.out.below hb3 X1.out.lt)
    clear hb1 hb2 hb3
    clear c1_0 c1_1 c1_2 c1_3 c1_36
    have c2_0 := X2.out.c 0 (opA_0 x)
    have c2_1 := X2.out.c 1 (opA_1 x)
    have c2_2 := X2.out.c 2 (opA_2 x)
    have c2_3 := X2.out.c 3 (opA_3 x)
    have c2_36 := X2.out.c 36 (opA_36 x)
    simp only [Act.put, List.setIfInBounds_toArray, List.set_cons_zero, List.set_cons_succ]
    refine WL.callF (by kernel_rfl) 72 _ _ rfl Try.in72 #[u_1, vb2] (by simp [Act.eval]) ?_
    refine (rbytes_any u_1 vb2 (L1 ++ [x.kind]) (lst x.key) w_2 H2.out.own R2.out.row S2.out (by have := Hbd.out; simp only [List.length_append, List.length_cons, List.length_nil] at this ⊢; omega)).mono ?_
    rintro e w_3 hp
    obtain ⟨u_3, rfl, hq1, hq2, hq3⟩ := hp
    refine ⟨_, rfl, ?_⟩
    have H3 := Keep.mk (H2.out.step hq1 hq2 hq3)
    have X3 := Keep.mk (own_keeps H2.out.own X2.out (by decide) hq3)
    clear hq1 hq2 hq3
    clear c2_0 c2_1 c2_2 c2_3 c2_36
    have c3_0 := X3.out.c 0 (opA_0 x)
    have c3_1 := X3.out.c 1 (opA_1 x)
    have c3_2 := X3.out.c 2 (opA_2 x)
    have c3_3 := X3.out.c 3 (opA_3 x)
    have c3_36 := X3.out.c 36 (opA_36 x)
    simp only [Act.put, List.setIfInBounds_toArray, List.set_cons_zero, List.set_cons_succ]
    refine WL.val (by kernel_rfl) (u_3) (by go_simp) ?_
    simp only [Act.put, List.setIfInBounds_toArray, List.set_cons_zero, List.set_cons_succ]
    refine WL.nil ?_
    refine hK10 _ _ ?_
    refine wp_seq_k fun K11 hK11 => ?_
    refine wp_region_list (WL.out ?_)
    refine WL.val (by kernel_rfl) (.pointer (some ⟨gx, 0, none⟩)) (by go_simp) ?_
    simp only [Act.put, List.setIfInBounds_toArray, List.set_cons_zero, List.set_cons_succ]
    refine WL.val (by kernel_rfl) (.int .i64 x.kind) (by go_simp) ?_
    simp only [Act.put, List.setIfInBounds_toArray, List.set_cons_zero, List.set_cons_succ]
    refine WL.callF (by kernel_rfl) 73 _ _ rfl Try.in73 #[.int .i64 x.kind] (by simp [Act.eval]) ?_
    refine (hasText_any x.kind w_3).mono ?_
    rintro e w_y ⟨rfl, hwy⟩
    rw [hwy]
    clear hwy w_y
    refine ⟨_, rfl, ?_⟩
    simp only [Act.put, List.setIfInBounds_toArray, List.set_cons_zero, List.set_cons_succ]
    refine WL.val (by kernel_rfl) (.bool (txt x.kind)) (by go_simp) ?_
    simp only [Act.put, List.setIfInBounds_toArray, List.set_cons_zero, List.set_cons_succ]
    refine WL.nil ?_
    refine hK11 _ _ ?_
    refine wp_seq_k fun K12 hK12 => ?_
    refine wp_seq_k fun K13 hK13 => ?_
    refine wp_region_list (WL.out ?_)
    rcases Bool.eq_false_or_eq_true (txt x.kind) with h9_0 | h9_0
    · have q38 := h9_0
      rw [h9_0]
      refine WL.val (by kernel_rfl) (.bool true) (by go_simp) ?_
      simp only [Act.put, List.setIfInBounds_toArray, List.set_cons_zero, List.set_cons_succ]
      refine WL.nil ?_
      refine hK13 _ _ ?_
      refine wp_cond_true rfl ?_
      refine wp_region_list (WL.out ?_)
      refine WL.val (by kernel_rfl) (u_3) (by go_simp) ?_
      simp only [Act.put, List.setIfInBounds_toArray, List.set_cons_zero, List.set_cons_succ]
      refine WL.val (by kernel_rfl) (.pointer (some ⟨gx, 2, none⟩)) (by go_simp) ?_
      simp only [Act.put, List.setIfInBounds_toArray, List.set_cons_zero, List.set_cons_succ]
      refine WL.val (by kernel_rfl) (.string x.text) (by go_simp) ?_
      simp only [Act.put, List.setIfInBounds_toArray, List.set_cons_zero, List.set_cons_succ]
      refine WL.bytes (by kernel_rfl) (.tmp 41) rfl x.text rfl Hx.out.text ?_
      intro vb4 w_4 hb1 hb2 hb3
      have R4 := Keep.mk hb1
      have S4 : Keep (∀ k, vb4.ownBlock = some k → u_3.ownBlock ≠ some k) := ⟨fun k hk ho => by rw [hb2] at hk; injection hk with hk; have := H3.out.own.lt k ho; omega⟩
      have H4 := Keep.mk (H3.out.below hb3)
      have X4 := Keep.mk (X3.out.below hb3 X3.out.lt)
      clear hb1 hb2 hb3
      clear c3_0 c3_1 c3_2 c3_3 c3_36
      have c4_0 := X4.out.c 0 (opA_0 x)
      have c4_1 := X4.out.c 1 (opA_1 x)
      have c4_2 := X4.out.c 2 (opA_2 x)
      have c4_3 := X4.out.c 3 (opA_3 x)
      have c4_36 := X4.out.c 36 (opA_36 x)
      simp only [Act.put, List.setIfInBounds_toArray, List.set_cons_zero, List.set_cons_succ]
      refine WL.callF (by kernel_rfl) 72 _ _ rfl Try.in72 #[u_3, vb4] (by simp [Act.eval]) ?_
      refine (rbytes_any u_3 vb4 (L1 ++ [x.kind] ++ bform (lst x.key)) (lst x.text) w_4 H4.out.own R4.out.row S4.out (by have := Hbd.out; unfold tl at this; rw [if_pos q38] at this; simp only [List.length_append, List.length_cons, List.length_nil] at this ⊢; omega)).mono ?_
      rintro e w_5 hp
      obtain ⟨u_5, rfl, hq1, hq2, hq3⟩ := hp
      refine ⟨_, rfl, ?_⟩
      have H5 := Keep.mk (H4.out.step hq1 hq2 hq3)
      have X5 := Keep.mk (own_keeps H4.out.own X4.out (by decide) hq3)
      clear hq1 hq2 hq3
      clear c4_0 c4_1 c4_2 c4_3 c4_36
      have c5_0 := X5.out.c 0 (opA_0 x)
      have c5_1 := X5.out.c 1 (opA_1 x)
      have c5_2 := X5.out.c 2 (opA_2 x)
      have c5_3 := X5.out.c 3 (opA_3 x)
      have c5_36 := X5.out.c 36 (opA_36 x)
      simp only [Act.put, List.setIfInBounds_toArray, List.set_cons_zero, List.set_cons_succ]
      refine WL.val (by kernel_rfl) (u_5) (by go_simp) ?_
      simp only [Act.put, List.setIfInBounds_toArray, List.set_cons_zero, List.set_cons_succ]
      refine WL.nil ?_
      refine hK12 _ _ ?_
      refine wp_seq_k fun K14 hK14 => ?_
      refine wp_seq_k fun K15 hK15 => ?_
      refine wp_region_list (WL.out ?_)
      refine WL.val (by kernel_rfl) (.pointer (some ⟨gx, 0, none⟩)) (by go_simp) ?_
      simp only [Act.put, List.setIfInBounds_toArray, List.set_cons_zero, List.set_cons_succ]
      refine WL.val (by kernel_rfl) (.int .i64 x.kind) (by go_simp) ?_
      simp only [Act.put, List.setIfInBounds_toArray, List.set_cons_zero, List.set_cons_succ]
      by_cases h11_2 : x.kind = 6
      · skip
        refine WL.val (by kernel_rfl) (.bool true) (by go_simp) ?_
        simp only [Act.put, List.setIfInBounds_toArray, List.set_cons_zero, List.set_cons_succ]
        refine WL.nil ?_
        refine hK15 _ _ ?_
        refine wp_cond_true rfl ?_
        refine wp_region_list (WL.out ?_)
        refine WL.val (by kernel_rfl) (u_5) (by go_simp) ?_
        simp only [Act.put, List.setIfInBounds_toArray, List.set_cons_zero, List.set_cons_succ]
        refine WL.val (by kernel_rfl) (.pointer (some ⟨gx, 3, none⟩)) (by go_simp) ?_
        simp only [Act.put, List.setIfInBounds_toArray, List.set_cons_zero, List.set_cons_succ]
        refine WL.val (by kernel_rfl) (.int .i64 x.n) (by go_simp) ?_
        simp only [Act.put, List.setIfInBounds_toArray, List.set_cons_zero, List.set_cons_succ]
        refine WL.callF (by kernel_rfl) 74 _ _ rfl Try.in74 #[.int .i64 x.n] (by simp [Act.eval]) ?_
        refine (rzig_any x.n w_5 Hx.out.n1 Hx.out.n2).mono ?_
        rintro e w_y ⟨rfl, hwy⟩
        rw [hwy]
        clear hwy w_y
        refine ⟨_, rfl, ?_⟩
        simp only [Act.put, List.setIfInBounds_toArray, List.set_cons_zero, List.set_cons_succ]
        refine WL.callF (by kernel_rfl) 47 _ _ rfl Try.in47 #[u_5, .int .u64 (zig x.n : Int)] (by simp [Act.eval]) ?_
        refine (rnum_any u_5 (L1 ++ [x.kind] ++ bform (lst x.key) ++ bform (lst x.text)) (zig x.n) w_5 H5.out.own (zig_lt _ Hx.out.n1 Hx.out.n2) (by have := Hbd.out; unfold tl at this; rw [if_pos q38, if_pos h11_2] at this; simp only [List.length_append, List.length_cons, List.length_nil] at this ⊢; omega)).mono ?_
        rintro e w_6 hp
        obtain ⟨u_6, rfl, hq1, hq2, hq3⟩ := hp
        refine ⟨_, rfl, ?_⟩
        have H6 := Keep.mk (H5.out.step hq1 hq2 hq3)
        have X6 := Keep.mk (own_keeps H5.out.own X5.out (by decide) hq3)
        clear hq1 hq2 hq3
        clear c5_0 c5_1 c5_2 c5_3 c5_36
        have c6_0 := X6.out.c 0 (opA_0 x)
        have c6_1 := X6.out.c 1 (opA_1 x)
        have c6_2 := X6.out.c 2 (opA_2 x)
        have c6_3 := X6.out.c 3 (opA_3 x)
        have c6_36 := X6.out.c 36 (opA_36 x)
        simp only [Act.put, List.setIfInBounds_toArray, List.set_cons_zero, List.set_cons_succ]
        refine WL.val (by kernel_rfl) (u_6) (by go_simp) ?_
        simp only [Act.put, List.setIfInBounds_toArray, List.set_cons_zero, List.set_cons_succ]
        refine WL.nil ?_
        refine hK14 _ _ ?_
        refine wp_seq_k fun K16 hK16 => ?_
        refine wp_region_list (WL.out ?_)
        refine WL.val (by kernel_rfl) (.pointer (some ⟨gx, 0, none⟩)) (by go_simp) ?_
        simp only [Act.put, List.setIfInBounds_toArray, List.set_cons_zero, List.set_cons_succ]
        refine WL.val (by kernel_rfl) (.int .i64 x.kind) (by go_simp) ?_
        simp only [Act.put, List.setIfInBounds_toArray, List.set_cons_zero, List.set_cons_succ]
        refine WL.callF (by kernel_rfl) 75 _ _ rfl Try.in75 #[.int .i64 x.kind] (by simp [Act.eval]) ?_
        refine (hasAt_any x.kind w_6).mono ?_
        rintro e w_y ⟨rfl, hwy⟩
        rw [hwy]
        clear hwy w_y
        refine ⟨_, rfl, ?_⟩
        simp only [Act.put, List.setIfInBounds_toArray, List.set_cons_zero, List.set_cons_succ]
        refine WL.val (by kernel_rfl) (.bool (hat x.kind)) (by go_simp) ?_
        simp only [Act.put, List.setIfInBounds_toArray, List.set_cons_zero, List.set_cons_succ]
        refine WL.nil ?_
        refine hK16 _ _ ?_
        refine wp_seq_k fun K17 hK17 => ?_
        refine wp_region_list (WL.out ?_)
        rcases Bool.eq_false_or_eq_true (hat x.kind) with h14_0 | h14_0
        · have q55 := h14_0
          rw [h14_0]
          refine WL.val (by kernel_rfl) (.bool true) (by go_simp) ?_
          simp only [Act.put, List.setIfInBounds_toArray, List.set_cons_zero, List.set_cons_succ]
          refine WL.nil ?_
          refine hK17 _ _ ?_
          refine wp_cond_true rfl ?_
          refine wp_seq_k fun K18 hK18 => ?_
          refine wp_region_list (WL.out ?_)
          refine WL.val (by kernel_rfl) (u_6) (by go_simp) ?_
          simp only [Act.put, List.setIfInBounds_toArray, List.set_cons_zero, List.set_cons_succ]
          refine WL.val (by kernel_rfl) (.pointer (some ⟨gx, 4, none⟩)) (by go_simp) ?_
          simp only [Act.put, List.setIfInBounds_toArray, List.set_cons_zero, List.set_cons_succ]
          refine WL.val (by kernel_rfl) (.pointer (some ⟨gx, 36, none⟩)) (by go_simp) ?_
          simp only [Act.put, List.setIfInBounds_toArray, List.set_cons_zero, List.set_cons_succ]
          refine WL.val (by kernel_rfl) (.int .i64 x.op) (by go_simp) ?_
          simp only [Act.put, List.setIfInBounds_toArray, List.set_cons_zero, List.set_cons_succ]
          obtain ⟨on, hon⟩ : ∃ on : Nat, Keep (x.op = (on : Int)) := ⟨x.op.toNat, ⟨by have := (HHat.out q55).1; omega⟩⟩
          have hwo : IntKind.u64.wrap x.op = (on : Int) := by rw [hon.out, IntKind.wrap_u64]; have := (HHat.out q55).2; have := hon.out; omega
          have Hon : Keep (x.op.toNat = on) := ⟨by rw [hon.out, Int.toNat_natCast]⟩
          refine WL.val (by kernel_rfl) (.int .u64 (on : Int)) (by go_simp) ?_
          simp only [Act.put, List.setIfInBounds_toArray, List.set_cons_zero, List.set_cons_succ]
          refine WL.callF (by kernel_rfl) 47 _ _ rfl Try.in47 #[u_6, .int .u64 (on : Int)] (by simp [Act.eval]) ?_
          refine (rnum_any u_6 (L1 ++ [x.kind] ++ bform (lst x.key) ++ bform (lst x.text) ++ numL (zig x.n)) on w_6 H6.out.own (by have := (HHat.out q55).2; have := hon.out; omega) (by have := Hbd.out; unfold tl at this; rw [if_pos q38, if_pos h11_2, if_pos q55] at this; rw [Hon.out] at this; simp only [List.length_append, List.length_cons, List.length_nil] at this ⊢; omega)).mono ?_
          rintro e w_7 hp
          obtain ⟨u_7, rfl, hq1, hq2, hq3⟩ := hp
          refine ⟨_, rfl, ?_⟩
          have H7 := Keep.mk (H6.out.step hq1 hq2 hq3)
          have X7 := Keep.mk (own_keeps H6.out.own X6.out (by decide) hq3)
          clear hq1 hq2 hq3
          clear c6_0 c6_1 c6_2 c6_3 c6_36
          have c7_0 := X7.out.c 0 (opA_0 x)
          have c7_1 := X7.out.c 1 (opA_1 x)
          have c7_2 := X7.out.c 2 (opA_2 x)
          have c7_3 := X7.out.c 3 (opA_3 x)
          have c7_36 := X7.out.c 36 (opA_36 x)
          simp only [Act.put, List.setIfInBounds_toArray, List.set_cons_zero, List.set_cons_succ]
          refine WL.val (by kernel_rfl) (u_7) (by go_simp) ?_
          simp only [Act.put, List.setIfInBounds_toArray, List.set_cons_zero, List.set_cons_succ]
          refine WL.nil ?_
          refine hK18 _ _ ?_
          refine wp_seq_k fun K19 hK19 => ?_
          refine wp_region_list (WL.out ?_)
          refine WL.val (by kernel_rfl) (.pointer (some ⟨gx, 4, none⟩)) (by go_simp) ?_
          simp only [Act.put, List.setIfInBounds_toArray, List.set_cons_zero, List.set_cons_succ]
          refine WL.val (by kernel_rfl) (.pointer (some ⟨gx, 36, none⟩)) (by go_simp) ?_
          simp only [Act.put, List.setIfInBounds_toArray, List.set_cons_zero, List.set_cons_succ]
          refine WL.val (by kernel_rfl) (.int .i64 x.op) (by go_simp) ?_
          simp only [Act.put, List.setIfInBounds_toArray, List.set_cons_zero, List.set_cons_succ]
          by_cases h16_3 : x.op = 0
          · skip
            refine WL.val (by kernel_rfl) (.bool false) (by go_simp) ?_
            simp only [Act.put, List.setIfInBounds_toArray, List.set_cons_zero, List.set_cons_succ]
            refine WL.nil ?_
            refine hK19 _ _ ?_
            refine wp_cond_false rfl ?_
            refine wp_skip ?_
            refine hK7 _ _ ?_
            refine wp_region_list (WL.out ?_)
            refine WL.val (by kernel_rfl) (.int .i64 (t : Int)) (by go_simp) ?_
            simp only [Act.put, List.setIfInBounds_toArray, List.set_cons_zero, List.set_cons_succ]
            refine WL.val (by kernel_rfl) (.int .i64 ((t : Int) + 1)) (by go_simp) ?_
            simp only [Act.put, List.setIfInBounds_toArray, List.set_cons_zero, List.set_cons_succ]
            refine WL.val (by kernel_rfl) (.int .i64 ((t : Int) + 1)) (by go_simp) ?_
            simp only [Act.put, List.setIfInBounds_toArray, List.set_cons_zero, List.set_cons_succ]
            refine WL.nil ?_
            have hE : L0 ++ numL l.length ++ (l.take (t + 1)).flatMap oneF = L1 ++ [x.kind] ++ bform (lst x.key) ++ bform (lst x.text) ++ numL (zig x.n) ++ numL on := by
              rw [HFull.out]; unfold tl
              rw [if_pos q38, if_pos h11_2, if_pos q55, if_pos h16_3]
              rw [Hon.out]
              simp
            refine ⟨⟨t + 1, u_7, .pointer (some ⟨gx, 0, none⟩), .bool true, .bool true, .int .i64 (t : Int), .slice va l.length vc, .int .i64 (l.length : Int), .bool true, .int .i64 (t : Int), .int .i64 ((t : Int) + 1), .slice va l.length vc, .int .i64 (t : Int), .pointer (some ⟨gL, ofL + t * 37, none⟩), .agg (opA x), u0, .pointer (some ⟨gx, 0, none⟩), .int .i64 x.kind, .int .u8 x.kind, .slice (some ⟨w_0.heap.size, 0, none⟩) 1 1, u_1, u_1, .pointer (some ⟨gx, 1, none⟩), .string x.key, vb2, u_3, .pointer (some ⟨gx, 0, none⟩), .int .i64 x.kind, .bool true, .bool true, u_3, .pointer (some ⟨gx, 2, none⟩), .string x.text, vb4, u_5, .pointer (some ⟨gx, 0, none⟩), .int .i64 x.kind, .bool true, u_5, .pointer (some ⟨gx, 3, none⟩), .int .i64 x.n, .int .u64 (zig x.n : Int), u_6, .pointer (some ⟨gx, 0, none⟩), .int .i64 x.kind, .bool true, .bool true, u_6, .pointer (some ⟨gx, 4, none⟩), .pointer (some ⟨gx, 36, none⟩), .int .i64 x.op, .int .u64 (on : Int), u_7, .pointer (some ⟨gx, 4, none⟩), .pointer (some ⟨gx, 36, none⟩), .int .i64 x.op, .bool false, u66, u67, u68, u69, u70, rfl, by omega, by rw [hE]; exact H7.out⟩, ?_⟩
            simp only [intOf]; show l.length - ((t : Int) + 1).toNat < l.length - ((t : Int)).toNat; omega
          · skip
            refine WL.val (by kernel_rfl) (.bool true) (by go_simp) ?_
            simp only [Act.put, List.setIfInBounds_toArray, List.set_cons_zero, List.set_cons_succ]
            refine WL.nil ?_
            refine hK19 _ _ ?_
            refine wp_cond_true rfl ?_
            refine wp_region_list (WL.out ?_)
            refine WL.val (by kernel_rfl) (u_7) (by go_simp) ?_
            simp only [Act.put, List.setIfInBounds_toArray, List.set_cons_zero, List.set_cons_succ]
            refine WL.val (by kernel_rfl) (.pointer (some ⟨gx, 4, none⟩)) (by go_simp) ?_
            simp only [Act.put, List.setIfInBounds_toArray, List.set_cons_zero, List.set_cons_succ]
            refine WL.val (by kernel_rfl) (.pointer (some ⟨gx, 4, none⟩)) (by go_simp) ?_
            simp only [Act.put, List.setIfInBounds_toArray, List.set_cons_zero, List.set_cons_succ]
            refine WL.midA (by kernel_rfl) 40 (.tmp 68) rfl gx 4 rfl (bytesA 32 (hof x.node)) _ (opA_nodes X7.out) Try.underlying40 rfl (Try.size40B _) ?_
            simp only [Act.put, List.setIfInBounds_toArray, List.set_cons_zero, List.set_cons_succ]
            refine WL.callF (by kernel_rfl) 48 _ _ rfl Try.in48 #[u_7, .agg (bytesA 32 (hof x.node))] (by simp [Act.eval]) ?_
            refine (rhash_any u_7 (L1 ++ [x.kind] ++ bform (lst x.key) ++ bform (lst x.text) ++ numL (zig x.n) ++ numL on) (hof x.node) w_7 H7.out.own (by have := Hbd.out; unfold tl at this; rw [if_pos q38, if_pos h11_2, if_pos q55, if_neg h16_3] at this; rw [Hon.out] at this; simp only [hl_len, List.length_append, List.length_cons, List.length_nil] at this ⊢; omega)).mono ?_
            rintro e w_8 hp
            obtain ⟨u_8, rfl, hq1, hq2, hq3⟩ := hp
            refine ⟨_, rfl, ?_⟩
            have H8 := Keep.mk (H7.out.step hq1 hq2 hq3)
            have X8 := Keep.mk (own_keeps H7.out.own X7.out (by decide) hq3)
            clear hq1 hq2 hq3
            clear c7_0 c7_1 c7_2 c7_3 c7_36
            have c8_0 := X8.out.c 0 (opA_0 x)
            have c8_1 := X8.out.c 1 (opA_1 x)
            have c8_2 := X8.out.c 2 (opA_2 x)
            have c8_3 := X8.out.c 3 (opA_3 x)
            have c8_36 := X8.out.c 36 (opA_36 x)
            simp only [Act.put, List.setIfInBounds_toArray, List.set_cons_zero, List.set_cons_succ]
            refine WL.val (by kernel_rfl) (u_8) (by go_simp) ?_
            simp only [Act.put, List.setIfInBounds_toArray, List.set_cons_zero, List.set_cons_succ]
            refine WL.nil ?_
            refine hK7 _ _ ?_
            refine wp_region_list (WL.out ?_)
            refine WL.val (by kernel_rfl) (.int .i64 (t : Int)) (by go_simp) ?_
            simp only [Act.put, List.setIfInBounds_toArray, List.set_cons_zero, List.set_cons_succ]
            refine WL.val (by kernel_rfl) (.int .i64 ((t : Int) + 1)) (by go_simp) ?_
            simp only [Act.put, List.setIfInBounds_toArray, List.set_cons_zero, List.set_cons_succ]
            refine WL.val (by kernel_rfl) (.int .i64 ((t : Int) + 1)) (by go_simp) ?_
            simp only [Act.put, List.setIfInBounds_toArray, List.set_cons_zero, List.set_cons_succ]
            refine WL.nil ?_
            have hE : L0 ++ numL l.length ++ (l.take (t + 1)).flatMap oneF = L1 ++ [x.kind] ++ bform (lst x.key) ++ bform (lst x.text) ++ numL (zig x.n) ++ numL on ++ hl 32 (hof x.node) := by
              rw [HFull.out]; unfold tl
              rw [if_pos q38, if_pos h11_2, if_pos q55, if_neg h16_3]
              rw [Hon.out]
              simp
            refine ⟨⟨t + 1, u_8, .pointer (some ⟨gx, 0, none⟩), .bool true, .bool true, .int .i64 (t : Int), .slice va l.length vc, .int .i64 (l.length : Int), .bool true, .int .i64 (t : Int), .int .i64 ((t : Int) + 1), .slice va l.length vc, .int .i64 (t : Int), .pointer (some ⟨gL, ofL + t * 37, none⟩), .agg (opA x), u0, .pointer (some ⟨gx, 0, none⟩), .int .i64 x.kind, .int .u8 x.kind, .slice (some ⟨w_0.heap.size, 0, none⟩) 1 1, u_1, u_1, .pointer (some ⟨gx, 1, none⟩), .string x.key, vb2, u_3, .pointer (some ⟨gx, 0, none⟩), .int .i64 x.kind, .bool true, .bool true, u_3, .pointer (some ⟨gx, 2, none⟩), .string x.text, vb4, u_5, .pointer (some ⟨gx, 0, none⟩), .int .i64 x.kind, .bool true, u_5, .pointer (some ⟨gx, 3, none⟩), .int .i64 x.n, .int .u64 (zig x.n : Int), u_6, .pointer (some ⟨gx, 0, none⟩), .int .i64 x.kind, .bool true, .bool true, u_6, .pointer (some ⟨gx, 4, none⟩), .pointer (some ⟨gx, 36, none⟩), .int .i64 x.op, .int .u64 (on : Int), u_7, .pointer (some ⟨gx, 4, none⟩), .pointer (some ⟨gx, 36, none⟩), .int .i64 x.op, .bool true, u_7, .pointer (some ⟨gx, 4, none⟩), .pointer (some ⟨gx, 4, none⟩), .agg (bytesA 32 (hof x.node)), u_8, rfl, by omega, by rw [hE]; exact H8.out⟩, ?_⟩
            simp only [intOf]; show l.length - ((t : Int) + 1).toNat < l.length - ((t : Int)).toNat; omega
        · have q55 := h14_0
          rw [h14_0]
          refine WL.val (by kernel_rfl) (.bool false) (by go_simp) ?_
          simp only [Act.put, List.setIfInBounds_toArray, List.set_cons_zero, List.set_cons_succ]
          refine WL.nil ?_
          refine hK17 _ _ ?_
          refine wp_cond_false rfl ?_
          refine wp_skip ?_
          refine hK7 _ _ ?_
          refine wp_region_list (WL.out ?_)
          refine WL.val (by kernel_rfl) (.int .i64 (t : Int)) (by go_simp) ?_
          simp only [Act.put, List.setIfInBounds_toArray, List.set_cons_zero, List.set_cons_succ]
          refine WL.val (by kernel_rfl) (.int .i64 ((t : Int) + 1)) (by go_simp) ?_
          simp only [Act.put, List.setIfInBounds_toArray, List.set_cons_zero, List.set_cons_succ]
          refine WL.val (by kernel_rfl) (.int .i64 ((t : Int) + 1)) (by go_simp) ?_
          simp only [Act.put, List.setIfInBounds_toArray, List.set_cons_zero, List.set_cons_succ]
          refine WL.nil ?_
          have hE : L0 ++ numL l.length ++ (l.take (t + 1)).flatMap oneF = L1 ++ [x.kind] ++ bform (lst x.key) ++ bform (lst x.text) ++ numL (zig x.n) := by
            rw [HFull.out]; unfold tl
            rw [if_pos q38, if_pos h11_2, if_neg (show ¬ hat x.kind = true by rw [q55]; decide)]
            simp
          refine ⟨⟨t + 1, u_6, .pointer (some ⟨gx, 0, none⟩), .bool true, .bool false, .int .i64 (t : Int), .slice va l.length vc, .int .i64 (l.length : Int), .bool true, .int .i64 (t : Int), .int .i64 ((t : Int) + 1), .slice va l.length vc, .int .i64 (t : Int), .pointer (some ⟨gL, ofL + t * 37, none⟩), .agg (opA x), u0, .pointer (some ⟨gx, 0, none⟩), .int .i64 x.kind, .int .u8 x.kind, .slice (some ⟨w_0.heap.size, 0, none⟩) 1 1, u_1, u_1, .pointer (some ⟨gx, 1, none⟩), .string x.key, vb2, u_3, .pointer (some ⟨gx, 0, none⟩), .int .i64 x.kind, .bool true, .bool true, u_3, .pointer (some ⟨gx, 2, none⟩), .string x.text, vb4, u_5, .pointer (some ⟨gx, 0, none⟩), .int .i64 x.kind, .bool true, u_5, .pointer (some ⟨gx, 3, none⟩), .int .i64 x.n, .int .u64 (zig x.n : Int), u_6, .pointer (some ⟨gx, 0, none⟩), .int .i64 x.kind, .bool false, .bool false, u56, u57, u58, u59, u60, u61, u62, u63, u64, u65, u66, u67, u68, u69, u70, rfl, by omega, by rw [hE]; exact H6.out⟩, ?_⟩
          simp only [intOf]; show l.length - ((t : Int) + 1).toNat < l.length - ((t : Int)).toNat; omega
      · skip
        refine WL.val (by kernel_rfl) (.bool false) (by go_simp) ?_
        simp only [Act.put, List.setIfInBounds_toArray, List.set_cons_zero, List.set_cons_succ]
        refine WL.nil ?_
        refine hK15 _ _ ?_
        refine wp_cond_false rfl ?_
        refine wp_skip ?_
        refine hK14 _ _ ?_
        refine wp_seq_k fun K20 hK20 => ?_
        refine wp_region_list (WL.out ?_)
        refine WL.val (by kernel_rfl) (.pointer (some ⟨gx, 0, none⟩)) (by go_simp) ?_
        simp only [Act.put, List.setIfInBounds_toArray, List.set_cons_zero, List.set_cons_succ]
        refine WL.val (by kernel_rfl) (.int .i64 x.kind) (by go_simp) ?_
        simp only [Act.put, List.setIfInBounds_toArray, List.set_cons_zero, List.set_cons_succ]
        refine WL.callF (by kernel_rfl) 75 _ _ rfl Try.in75 #[.int .i64 x.kind] (by simp [Act.eval]) ?_
        refine (hasAt_any x.kind w_5).mono ?_
        rintro e w_y ⟨rfl, hwy⟩
        rw [hwy]
        clear hwy w_y
        refine ⟨_, rfl, ?_⟩
        simp only [Act.put, List.setIfInBounds_toArray, List.set_cons_zero, List.set_cons_succ]
        refine WL.val (by kernel_rfl) (.bool (hat x.kind)) (by go_simp) ?_
        simp only [Act.put, List.setIfInBounds_toArray, List.set_cons_zero, List.set_cons_succ]
        refine WL.nil ?_
        refine hK20 _ _ ?_
        refine wp_seq_k fun K21 hK21 => ?_
        refine wp_region_list (WL.out ?_)
        rcases Bool.eq_false_or_eq_true (hat x.kind) with h14_0 | h14_0
        · have q55 := h14_0
          rw [h14_0]
          refine WL.val (by kernel_rfl) (.bool true) (by go_simp) ?_
          simp only [Act.put, List.setIfInBounds_toArray, List.set_cons_zero, List.set_cons_succ]
          refine WL.nil ?_
          refine hK21 _ _ ?_
          refine wp_cond_true rfl ?_
          refine wp_seq_k fun K22 hK22 => ?_
          refine wp_region_list (WL.out ?_)
          refine WL.val (by kernel_rfl) (u_5) (by go_simp) ?_
          simp only [Act.put, List.setIfInBounds_toArray, List.set_cons_zero, List.set_cons_succ]
          refine WL.val (by kernel_rfl) (.pointer (some ⟨gx, 4, none⟩)) (by go_simp) ?_
          simp only [Act.put, List.setIfInBounds_toArray, List.set_cons_zero, List.set_cons_succ]
          refine WL.val (by kernel_rfl) (.pointer (some ⟨gx, 36, none⟩)) (by go_simp) ?_
          simp only [Act.put, List.setIfInBounds_toArray, List.set_cons_zero, List.set_cons_succ]
          refine WL.val (by kernel_rfl) (.int .i64 x.op) (by go_simp) ?_
          simp only [Act.put, List.setIfInBounds_toArray, List.set_cons_zero, List.set_cons_succ]
          obtain ⟨on, hon⟩ : ∃ on : Nat, Keep (x.op = (on : Int)) := ⟨x.op.toNat, ⟨by have := (HHat.out q55).1; omega⟩⟩
          have hwo : IntKind.u64.wrap x.op = (on : Int) := by rw [hon.out, IntKind.wrap_u64]; have := (HHat.out q55).2; have := hon.out; omega
          have Hon : Keep (x.op.toNat = on) := ⟨by rw [hon.out, Int.toNat_natCast]⟩
          refine WL.val (by kernel_rfl) (.int .u64 (on : Int)) (by go_simp) ?_
          simp only [Act.put, List.setIfInBounds_toArray, List.set_cons_zero, List.set_cons_succ]
          refine WL.callF (by kernel_rfl) 47 _ _ rfl Try.in47 #[u_5, .int .u64 (on : Int)] (by simp [Act.eval]) ?_
          refine (rnum_any u_5 (L1 ++ [x.kind] ++ bform (lst x.key) ++ bform (lst x.text)) on w_5 H5.out.own (by have := (HHat.out q55).2; have := hon.out; omega) (by have := Hbd.out; unfold tl at this; rw [if_pos q38, if_neg h11_2, if_pos q55] at this; rw [Hon.out] at this; simp only [List.length_append, List.length_cons, List.length_nil] at this ⊢; omega)).mono ?_
          rintro e w_6 hp
          obtain ⟨u_6, rfl, hq1, hq2, hq3⟩ := hp
          refine ⟨_, rfl, ?_⟩
          have H6 := Keep.mk (H5.out.step hq1 hq2 hq3)
          have X6 := Keep.mk (own_keeps H5.out.own X5.out (by decide) hq3)
          clear hq1 hq2 hq3
          clear c5_0 c5_1 c5_2 c5_3 c5_36
          have c6_0 := X6.out.c 0 (opA_0 x)
          have c6_1 := X6.out.c 1 (opA_1 x)
          have c6_2 := X6.out.c 2 (opA_2 x)
          have c6_3 := X6.out.c 3 (opA_3 x)
          have c6_36 := X6.out.c 36 (opA_36 x)
          simp only [Act.put, List.setIfInBounds_toArray, List.set_cons_zero, List.set_cons_succ]
          refine WL.val (by kernel_rfl) (u_6) (by go_simp) ?_
          simp only [Act.put, List.setIfInBounds_toArray, List.set_cons_zero, List.set_cons_succ]
          refine WL.nil ?_
          refine hK22 _ _ ?_
          refine wp_seq_k fun K23 hK23 => ?_
          refine wp_region_list (WL.out ?_)
          refine WL.val (by kernel_rfl) (.pointer (some ⟨gx, 4, none⟩)) (by go_simp) ?_
          simp only [Act.put, List.setIfInBounds_toArray, List.set_cons_zero, List.set_cons_succ]
          refine WL.val (by kernel_rfl) (.pointer (some ⟨gx, 36, none⟩)) (by go_simp) ?_
          simp only [Act.put, List.setIfInBounds_toArray, List.set_cons_zero, List.set_cons_succ]
          refine WL.val (by kernel_rfl) (.int .i64 x.op) (by go_simp) ?_
          simp only [Act.put, List.setIfInBounds_toArray, List.set_cons_zero, List.set_cons_succ]
          by_cases h16_3 : x.op = 0
          · skip
            refine WL.val (by kernel_rfl) (.bool false) (by go_simp) ?_
            simp only [Act.put, List.setIfInBounds_toArray, List.set_cons_zero, List.set_cons_succ]
            refine WL.nil ?_
            refine hK23 _ _ ?_
            refine wp_cond_false rfl ?_
            refine wp_skip ?_
            refine hK7 _ _ ?_
            refine wp_region_list (WL.out ?_)
            refine WL.val (by kernel_rfl) (.int .i64 (t : Int)) (by go_simp) ?_
            simp only [Act.put, List.setIfInBounds_toArray, List.set_cons_zero, List.set_cons_succ]
            refine WL.val (by kernel_rfl) (.int .i64 ((t : Int) + 1)) (by go_simp) ?_
            simp only [Act.put, List.setIfInBounds_toArray, List.set_cons_zero, List.set_cons_succ]
            refine WL.val (by kernel_rfl) (.int .i64 ((t : Int) + 1)) (by go_simp) ?_
            simp only [Act.put, List.setIfInBounds_toArray, List.set_cons_zero, List.set_cons_succ]
            refine WL.nil ?_
            have hE : L0 ++ numL l.length ++ (l.take (t + 1)).flatMap oneF = L1 ++ [x.kind] ++ bform (lst x.key) ++ bform (lst x.text) ++ numL on := by
              rw [HFull.out]; unfold tl
              rw [if_pos q38, if_neg h11_2, if_pos q55, if_pos h16_3]
              rw [Hon.out]
              simp
            refine ⟨⟨t + 1, u_6, .pointer (some ⟨gx, 0, none⟩), .bool true, .bool true, .int .i64 (t : Int), .slice va l.length vc, .int .i64 (l.length : Int), .bool true, .int .i64 (t : Int), .int .i64 ((t : Int) + 1), .slice va l.length vc, .int .i64 (t : Int), .pointer (some ⟨gL, ofL + t * 37, none⟩), .agg (opA x), u0, .pointer (some ⟨gx, 0, none⟩), .int .i64 x.kind, .int .u8 x.kind, .slice (some ⟨w_0.heap.size, 0, none⟩) 1 1, u_1, u_1, .pointer (some ⟨gx, 1, none⟩), .string x.key, vb2, u_3, .pointer (some ⟨gx, 0, none⟩), .int .i64 x.kind, .bool true, .bool true, u_3, .pointer (some ⟨gx, 2, none⟩), .string x.text, vb4, u_5, .pointer (some ⟨gx, 0, none⟩), .int .i64 x.kind, .bool false, u47, u48, u49, u50, u51, .pointer (some ⟨gx, 0, none⟩), .int .i64 x.kind, .bool true, .bool true, u_5, .pointer (some ⟨gx, 4, none⟩), .pointer (some ⟨gx, 36, none⟩), .int .i64 x.op, .int .u64 (on : Int), u_6, .pointer (some ⟨gx, 4, none⟩), .pointer (some ⟨gx, 36, none⟩), .int .i64 x.op, .bool false, u66, u67, u68, u69, u70, rfl, by omega, by rw [hE]; exact H6.out⟩, ?_⟩
            simp only [intOf]; show l.length - ((t : Int) + 1).toNat < l.length - ((t : Int)).toNat; omega
          · skip
            refine WL.val (by kernel_rfl) (.bool true) (by go_simp) ?_
            simp only [Act.put, List.setIfInBounds_toArray, List.set_cons_zero, List.set_cons_succ]
            refine WL.nil ?_
            refine hK23 _ _ ?_
            refine wp_cond_true rfl ?_
            refine wp_region_list (WL.out ?_)
            refine WL.val (by kernel_rfl) (u_6) (by go_simp) ?_
            simp only [Act.put, List.setIfInBounds_toArray, List.set_cons_zero, List.set_cons_succ]
            refine WL.val (by kernel_rfl) (.pointer (some ⟨gx, 4, none⟩)) (by go_simp) ?_
            simp only [Act.put, List.setIfInBounds_toArray, List.set_cons_zero, List.set_cons_succ]
            refine WL.val (by kernel_rfl) (.pointer (some ⟨gx, 4, none⟩)) (by go_simp) ?_
            simp only [Act.put, List.setIfInBounds_toArray, List.set_cons_zero, List.set_cons_succ]
            refine WL.midA (by kernel_rfl) 40 (.tmp 68) rfl gx 4 rfl (bytesA 32 (hof x.node)) _ (opA_nodes X6.out) Try.underlying40 rfl (Try.size40B _) ?_
            simp only [Act.put, List.setIfInBounds_toArray, List.set_cons_zero, List.set_cons_succ]
            refine WL.callF (by kernel_rfl) 48 _ _ rfl Try.in48 #[u_6, .agg (bytesA 32 (hof x.node))] (by simp [Act.eval]) ?_
            refine (rhash_any u_6 (L1 ++ [x.kind] ++ bform (lst x.key) ++ bform (lst x.text) ++ numL on) (hof x.node) w_6 H6.out.own (by have := Hbd.out; unfold tl at this; rw [if_pos q38, if_neg h11_2, if_pos q55, if_neg h16_3] at this; rw [Hon.out] at this; simp only [hl_len, List.length_append, List.length_cons, List.length_nil] at this ⊢; omega)).mono ?_
            rintro e w_7 hp
            obtain ⟨u_7, rfl, hq1, hq2, hq3⟩ := hp
            refine ⟨_, rfl, ?_⟩
            have H7 := Keep.mk (H6.out.step hq1 hq2 hq3)
            have X7 := Keep.mk (own_keeps H6.out.own X6.out (by decide) hq3)
            clear hq1 hq2 hq3
            clear c6_0 c6_1 c6_2 c6_3 c6_36
            have c7_0 := X7.out.c 0 (opA_0 x)
            have c7_1 := X7.out.c 1 (opA_1 x)
            have c7_2 := X7.out.c 2 (opA_2 x)
            have c7_3 := X7.out.c 3 (opA_3 x)
            have c7_36 := X7.out.c 36 (opA_36 x)
            simp only [Act.put, List.setIfInBounds_toArray, List.set_cons_zero, List.set_cons_succ]
            refine WL.val (by kernel_rfl) (u_7) (by go_simp) ?_
            simp only [Act.put, List.setIfInBounds_toArray, List.set_cons_zero, List.set_cons_succ]
            refine WL.nil ?_
            refine hK7 _ _ ?_
            refine wp_region_list (WL.out ?_)
            refine WL.val (by kernel_rfl) (.int .i64 (t : Int)) (by go_simp) ?_
            simp only [Act.put, List.setIfInBounds_toArray, List.set_cons_zero, List.set_cons_succ]
            refine WL.val (by kernel_rfl) (.int .i64 ((t : Int) + 1)) (by go_simp) ?_
            simp only [Act.put, List.setIfInBounds_toArray, List.set_cons_zero, List.set_cons_succ]
            refine WL.val (by kernel_rfl) (.int .i64 ((t : Int) + 1)) (by go_simp) ?_
            simp only [Act.put, List.setIfInBounds_toArray, List.set_cons_zero, List.set_cons_succ]
            refine WL.nil ?_
            have hE : L0 ++ numL l.length ++ (l.take (t + 1)).flatMap oneF = L1 ++ [x.kind] ++ bform (lst x.key) ++ bform (lst x.text) ++ numL on ++ hl 32 (hof x.node) := by
              rw [HFull.out]; unfold tl
              rw [if_pos q38, if_neg h11_2, if_pos q55, if_neg h16_3]
              rw [Hon.out]
              simp
            refine ⟨⟨t + 1, u_7, .pointer (some ⟨gx, 0, none⟩), .bool true, .bool true, .int .i64 (t : Int), .slice va l.length vc, .int .i64 (l.length : Int), .bool true, .int .i64 (t : Int), .int .i64 ((t : Int) + 1), .slice va l.length vc, .int .i64 (t : Int), .pointer (some ⟨gL, ofL + t * 37, none⟩), .agg (opA x), u0, .pointer (some ⟨gx, 0, none⟩), .int .i64 x.kind, .int .u8 x.kind, .slice (some ⟨w_0.heap.size, 0, none⟩) 1 1, u_1, u_1, .pointer (some ⟨gx, 1, none⟩), .string x.key, vb2, u_3, .pointer (some ⟨gx, 0, none⟩), .int .i64 x.kind, .bool true, .bool true, u_3, .pointer (some ⟨gx, 2, none⟩), .string x.text, vb4, u_5, .pointer (some ⟨gx, 0, none⟩), .int .i64 x.kind, .bool false, u47, u48, u49, u50, u51, .pointer (some ⟨gx, 0, none⟩), .int .i64 x.kind, .bool true, .bool true, u_5, .pointer (some ⟨gx, 4, none⟩), .pointer (some ⟨gx, 36, none⟩), .int .i64 x.op, .int .u64 (on : Int), u_6, .pointer (some ⟨gx, 4, none⟩), .pointer (some ⟨gx, 36, none⟩), .int .i64 x.op, .bool true, u_6, .pointer (some ⟨gx, 4, none⟩), .pointer (some ⟨gx, 4, none⟩), .agg (bytesA 32 (hof x.node)), u_7, rfl, by omega, by rw [hE]; exact H7.out⟩, ?_⟩
            simp only [intOf]; show l.length - ((t : Int) + 1).toNat < l.length - ((t : Int)).toNat; omega
        · have q55 := h14_0
          rw [h14_0]
          refine WL.val (by kernel_rfl) (.bool false) (by go_simp) ?_
          simp only [Act.put, List.setIfInBounds_toArray, List.set_cons_zero, List.set_cons_succ]
          refine WL.nil ?_
          refine hK21 _ _ ?_
          refine wp_cond_false rfl ?_
          refine wp_skip ?_
          refine hK7 _ _ ?_
          refine wp_region_list (WL.out ?_)
          refine WL.val (by kernel_rfl) (.int .i64 (t : Int)) (by go_simp) ?_
          simp only [Act.put, List.setIfInBounds_toArray, List.set_cons_zero, List.set_cons_succ]
          refine WL.val (by kernel_rfl) (.int .i64 ((t : Int) + 1)) (by go_simp) ?_
          simp only [Act.put, List.setIfInBounds_toArray, List.set_cons_zero, List.set_cons_succ]
          refine WL.val (by kernel_rfl) (.int .i64 ((t : Int) + 1)) (by go_simp) ?_
          simp only [Act.put, List.setIfInBounds_toArray, List.set_cons_zero, List.set_cons_succ]
          refine WL.nil ?_
          have hE : L0 ++ numL l.length ++ (l.take (t + 1)).flatMap oneF = L1 ++ [x.kind] ++ bform (lst x.key) ++ bform (lst x.text) := by
            rw [HFull.out]; unfold tl
            rw [if_pos q38, if_neg h11_2, if_neg (show ¬ hat x.kind = true by rw [q55]; decide)]
            simp
          refine ⟨⟨t + 1, u_5, .pointer (some ⟨gx, 0, none⟩), .bool true, .bool false, .int .i64 (t : Int), .slice va l.length vc, .int .i64 (l.length : Int), .bool true, .int .i64 (t : Int), .int .i64 ((t : Int) + 1), .slice va l.length vc, .int .i64 (t : Int), .pointer (some ⟨gL, ofL + t * 37, none⟩), .agg (opA x), u0, .pointer (some ⟨gx, 0, none⟩), .int .i64 x.kind, .int .u8 x.kind, .slice (some ⟨w_0.heap.size, 0, none⟩) 1 1, u_1, u_1, .pointer (some ⟨gx, 1, none⟩), .string x.key, vb2, u_3, .pointer (some ⟨gx, 0, none⟩), .int .i64 x.kind, .bool true, .bool true, u_3, .pointer (some ⟨gx, 2, none⟩), .string x.text, vb4, u_5, .pointer (some ⟨gx, 0, none⟩), .int .i64 x.kind, .bool false, u47, u48, u49, u50, u51, .pointer (some ⟨gx, 0, none⟩), .int .i64 x.kind, .bool false, .bool false, u56, u57, u58, u59, u60, u61, u62, u63, u64, u65, u66, u67, u68, u69, u70, rfl, by omega, by rw [hE]; exact H5.out⟩, ?_⟩
          simp only [intOf]; show l.length - ((t : Int) + 1).toNat < l.length - ((t : Int)).toNat; omega
    · have q38 := h9_0
      rw [h9_0]
      refine WL.val (by kernel_rfl) (.bool false) (by go_simp) ?_
      simp only [Act.put, List.setIfInBounds_toArray, List.set_cons_zero, List.set_cons_succ]
      refine WL.nil ?_
      refine hK13 _ _ ?_
      refine wp_cond_false rfl ?_
      refine wp_skip ?_
      refine hK12 _ _ ?_
      refine wp_seq_k fun K24 hK24 => ?_
      refine wp_seq_k fun K25 hK25 => ?_
      refine wp_region_list (WL.out ?_)
      refine WL.val (by kernel_rfl) (.pointer (some ⟨gx, 0, none⟩)) (by go_simp) ?_
      simp only [Act.put, List.setIfInBounds_toArray, List.set_cons_zero, List.set_cons_succ]
      refine WL.val (by kernel_rfl) (.int .i64 x.kind) (by go_simp) ?_
      simp only [Act.put, List.setIfInBounds_toArray, List.set_cons_zero, List.set_cons_succ]
      by_cases h11_2 : x.kind = 6
      · skip
        refine WL.val (by kernel_rfl) (.bool true) (by go_simp) ?_
        simp only [Act.put, List.setIfInBounds_toArray, List.set_cons_zero, List.set_cons_succ]
        refine WL.nil ?_
        refine hK25 _ _ ?_
        refine wp_cond_true rfl ?_
        refine wp_region_list (WL.out ?_)
        refine WL.val (by kernel_rfl) (u_3) (by go_simp) ?_
        simp only [Act.put, List.setIfInBounds_toArray, List.set_cons_zero, List.set_cons_succ]
        refine WL.val (by kernel_rfl) (.pointer (some ⟨gx, 3, none⟩)) (by go_simp) ?_
        simp only [Act.put, List.setIfInBounds_toArray, List.set_cons_zero, List.set_cons_succ]
        refine WL.val (by kernel_rfl) (.int .i64 x.n) (by go_simp) ?_
        simp only [Act.put, List.setIfInBounds_toArray, List.set_cons_zero, List.set_cons_succ]
        refine WL.callF (by kernel_rfl) 74 _ _ rfl Try.in74 #[.int .i64 x.n] (by simp [Act.eval]) ?_
        refine (rzig_any x.n w_3 Hx.out.n1 Hx.out.n2).mono ?_
        rintro e w_y ⟨rfl, hwy⟩
        rw [hwy]
        clear hwy w_y
        refine ⟨_, rfl, ?_⟩
        simp only [Act.put, List.setIfInBounds_toArray, List.set_cons_zero, List.set_cons_succ]
        refine WL.callF (by kernel_rfl) 47 _ _ rfl Try.in47 #[u_3, .int .u64 (zig x.n : Int)] (by simp [Act.eval]) ?_
        refine (rnum_any u_3 (L1 ++ [x.kind] ++ bform (lst x.key)) (zig x.n) w_3 H3.out.own (zig_lt _ Hx.out.n1 Hx.out.n2) (by have := Hbd.out; unfold tl at this; rw [if_neg (show ¬ txt x.kind = true by rw [q38]; decide), if_pos h11_2] at this; simp only [List.length_append, List.length_cons, List.length_nil] at this ⊢; omega)).mono ?_
        rintro e w_4 hp
        obtain ⟨u_4, rfl, hq1, hq2, hq3⟩ := hp
        refine ⟨_, rfl, ?_⟩
        have H4 := Keep.mk (H3.out.step hq1 hq2 hq3)
        have X4 := Keep.mk (own_keeps H3.out.own X3.out (by decide) hq3)
        clear hq1 hq2 hq3
        clear c3_0 c3_1 c3_2 c3_3 c3_36
        have c4_0 := X4.out.c 0 (opA_0 x)
        have c4_1 := X4.out.c 1 (opA_1 x)
        have c4_2 := X4.out.c 2 (opA_2 x)
        have c4_3 := X4.out.c 3 (opA_3 x)
        have c4_36 := X4.out.c 36 (opA_36 x)
        simp only [Act.put, List.setIfInBounds_toArray, List.set_cons_zero, List.set_cons_succ]
        refine WL.val (by kernel_rfl) (u_4) (by go_simp) ?_
        simp only [Act.put, List.setIfInBounds_toArray, List.set_cons_zero, List.set_cons_succ]
        refine WL.nil ?_
        refine hK24 _ _ ?_
        refine wp_seq_k fun K26 hK26 => ?_
        refine wp_region_list (WL.out ?_)
        refine WL.val (by kernel_rfl) (.pointer (some ⟨gx, 0, none⟩)) (by go_simp) ?_
        simp only [Act.put, List.setIfInBounds_toArray, List.set_cons_zero, List.set_cons_succ]
        refine WL.val (by kernel_rfl) (.int .i64 x.kind) (by go_simp) ?_
        simp only [Act.put, List.setIfInBounds_toArray, List.set_cons_zero, List.set_cons_succ]
        refine WL.callF (by kernel_rfl) 75 _ _ rfl Try.in75 #[.int .i64 x.kind] (by simp [Act.eval]) ?_
        refine (hasAt_any x.kind w_4).mono ?_
        rintro e w_y ⟨rfl, hwy⟩
        rw [hwy]
        clear hwy w_y
        refine ⟨_, rfl, ?_⟩
        simp only [Act.put, List.setIfInBounds_toArray, List.set_cons_zero, List.set_cons_succ]
        refine WL.val (by kernel_rfl) (.bool (hat x.kind)) (by go_simp) ?_
        simp only [Act.put, List.setIfInBounds_toArray, List.set_cons_zero, List.set_cons_succ]
        refine WL.nil ?_
        refine hK26 _ _ ?_
        refine wp_seq_k fun K27 hK27 => ?_
        refine wp_region_list (WL.out ?_)
        rcases Bool.eq_false_or_eq_true (hat x.kind) with h14_0 | h14_0
        · have q55 := h14_0
          rw [h14_0]
          refine WL.val (by kernel_rfl) (.bool true) (by go_simp) ?_
          simp only [Act.put, List.setIfInBounds_toArray, List.set_cons_zero, List.set_cons_succ]
          refine WL.nil ?_
          refine hK27 _ _ ?_
          refine wp_cond_true rfl ?_
          refine wp_seq_k fun K28 hK28 => ?_
          refine wp_region_list (WL.out ?_)
          refine WL.val (by kernel_rfl) (u_4) (by go_simp) ?_
          simp only [Act.put, List.setIfInBounds_toArray, List.set_cons_zero, List.set_cons_succ]
          refine WL.val (by kernel_rfl) (.pointer (some ⟨gx, 4, none⟩)) (by go_simp) ?_
          simp only [Act.put, List.setIfInBounds_toArray, List.set_cons_zero, List.set_cons_succ]
          refine WL.val (by kernel_rfl) (.pointer (some ⟨gx, 36, none⟩)) (by go_simp) ?_
          simp only [Act.put, List.setIfInBounds_toArray, List.set_cons_zero, List.set_cons_succ]
          refine WL.val (by kernel_rfl) (.int .i64 x.op) (by go_simp) ?_
          simp only [Act.put, List.setIfInBounds_toArray, List.set_cons_zero, List.set_cons_succ]
          obtain ⟨on, hon⟩ : ∃ on : Nat, Keep (x.op = (on : Int)) := ⟨x.op.toNat, ⟨by have := (HHat.out q55).1; omega⟩⟩
          have hwo : IntKind.u64.wrap x.op = (on : Int) := by rw [hon.out, IntKind.wrap_u64]; have := (HHat.out q55).2; have := hon.out; omega
          have Hon : Keep (x.op.toNat = on) := ⟨by rw [hon.out, Int.toNat_natCast]⟩
          refine WL.val (by kernel_rfl) (.int .u64 (on : Int)) (by go_simp) ?_
          simp only [Act.put, List.setIfInBounds_toArray, List.set_cons_zero, List.set_cons_succ]
          refine WL.callF (by kernel_rfl) 47 _ _ rfl Try.in47 #[u_4, .int .u64 (on : Int)] (by simp [Act.eval]) ?_
          refine (rnum_any u_4 (L1 ++ [x.kind] ++ bform (lst x.key) ++ numL (zig x.n)) on w_4 H4.out.own (by have := (HHat.out q55).2; have := hon.out; omega) (by have := Hbd.out; unfold tl at this; rw [if_neg (show ¬ txt x.kind = true by rw [q38]; decide), if_pos h11_2, if_pos q55] at this; rw [Hon.out] at this; simp only [List.length_append, List.length_cons, List.length_nil] at this ⊢; omega)).mono ?_
          rintro e w_5 hp
          obtain ⟨u_5, rfl, hq1, hq2, hq3⟩ := hp
          refine ⟨_, rfl, ?_⟩
          have H5 := Keep.mk (H4.out.step hq1 hq2 hq3)
          have X5 := Keep.mk (own_keeps H4.out.own X4.out (by decide) hq3)
          clear hq1 hq2 hq3
          clear c4_0 c4_1 c4_2 c4_3 c4_36
          have c5_0 := X5.out.c 0 (opA_0 x)
          have c5_1 := X5.out.c 1 (opA_1 x)
          have c5_2 := X5.out.c 2 (opA_2 x)
          have c5_3 := X5.out.c 3 (opA_3 x)
          have c5_36 := X5.out.c 36 (opA_36 x)
          simp only [Act.put, List.setIfInBounds_toArray, List.set_cons_zero, List.set_cons_succ]
          refine WL.val (by kernel_rfl) (u_5) (by go_simp) ?_
          simp only [Act.put, List.setIfInBounds_toArray, List.set_cons_zero, List.set_cons_succ]
          refine WL.nil ?_
          refine hK28 _ _ ?_
          refine wp_seq_k fun K29 hK29 => ?_
          refine wp_region_list (WL.out ?_)
          refine WL.val (by kernel_rfl) (.pointer (some ⟨gx, 4, none⟩)) (by go_simp) ?_
          simp only [Act.put, List.setIfInBounds_toArray, List.set_cons_zero, List.set_cons_succ]
          refine WL.val (by kernel_rfl) (.pointer (some ⟨gx, 36, none⟩)) (by go_simp) ?_
          simp only [Act.put, List.setIfInBounds_toArray, List.set_cons_zero, List.set_cons_succ]
          refine WL.val (by kernel_rfl) (.int .i64 x.op) (by go_simp) ?_
          simp only [Act.put, List.setIfInBounds_toArray, List.set_cons_zero, List.set_cons_succ]
          by_cases h16_3 : x.op = 0
          · skip
            refine WL.val (by kernel_rfl) (.bool false) (by go_simp) ?_
            simp only [Act.put, List.setIfInBounds_toArray, List.set_cons_zero, List.set_cons_succ]
            refine WL.nil ?_
            refine hK29 _ _ ?_
            refine wp_cond_false rfl ?_
            refine wp_skip ?_
            refine hK7 _ _ ?_
            refine wp_region_list (WL.out ?_)
            refine WL.val (by kernel_rfl) (.int .i64 (t : Int)) (by go_simp) ?_
            simp only [Act.put, List.setIfInBounds_toArray, List.set_cons_zero, List.set_cons_succ]
            refine WL.val (by kernel_rfl) (.int .i64 ((t : Int) + 1)) (by go_simp) ?_
            simp only [Act.put, List.setIfInBounds_toArray, List.set_cons_zero, List.set_cons_succ]
            refine WL.val (by kernel_rfl) (.int .i64 ((t : Int) + 1)) (by go_simp) ?_
            simp only [Act.put, List.setIfInBounds_toArray, List.set_cons_zero, List.set_cons_succ]
            refine WL.nil ?_
            have hE : L0 ++ numL l.length ++ (l.take (t + 1)).flatMap oneF = L1 ++ [x.kind] ++ bform (lst x.key) ++ numL (zig x.n) ++ numL on := by
              rw [HFull.out]; unfold tl
              rw [if_neg (show ¬ txt x.kind = true by rw [q38]; decide), if_pos h11_2, if_pos q55, if_pos h16_3]
              rw [Hon.out]
              simp
            refine ⟨⟨t + 1, u_5, .pointer (some ⟨gx, 0, none⟩), .bool false, .bool true, .int .i64 (t : Int), .slice va l.length vc, .int .i64 (l.length : Int), .bool true, .int .i64 (t : Int), .int .i64 ((t : Int) + 1), .slice va l.length vc, .int .i64 (t : Int), .pointer (some ⟨gL, ofL + t * 37, none⟩), .agg (opA x), u0, .pointer (some ⟨gx, 0, none⟩), .int .i64 x.kind, .int .u8 x.kind, .slice (some ⟨w_0.heap.size, 0, none⟩) 1 1, u_1, u_1, .pointer (some ⟨gx, 1, none⟩), .string x.key, vb2, u_3, .pointer (some ⟨gx, 0, none⟩), .int .i64 x.kind, .bool false, .bool false, u39, u40, u41, u42, u43, .pointer (some ⟨gx, 0, none⟩), .int .i64 x.kind, .bool true, u_3, .pointer (some ⟨gx, 3, none⟩), .int .i64 x.n, .int .u64 (zig x.n : Int), u_4, .pointer (some ⟨gx, 0, none⟩), .int .i64 x.kind, .bool true, .bool true, u_4, .pointer (some ⟨gx, 4, none⟩), .pointer (some ⟨gx, 36, none⟩), .int .i64 x.op, .int .u64 (on : Int), u_5, .pointer (some ⟨gx, 4, none⟩), .pointer (some ⟨gx, 36, none⟩), .int .i64 x.op, .bool false, u66, u67, u68, u69, u70, rfl, by omega, by rw [hE]; exact H5.out⟩, ?_⟩
            simp only [intOf]; show l.length - ((t : Int) + 1).toNat < l.length - ((t : Int)).toNat; omega
          · skip
            refine WL.val (by kernel_rfl) (.bool true) (by go_simp) ?_
            simp only [Act.put, List.setIfInBounds_toArray, List.set_cons_zero, List.set_cons_succ]
            refine WL.nil ?_
            refine hK29 _ _ ?_
            refine wp_cond_true rfl ?_
            refine wp_region_list (WL.out ?_)
            refine WL.val (by kernel_rfl) (u_5) (by go_simp) ?_
            simp only [Act.put, List.setIfInBounds_toArray, List.set_cons_zero, List.set_cons_succ]
            refine WL.val (by kernel_rfl) (.pointer (some ⟨gx, 4, none⟩)) (by go_simp) ?_
            simp only [Act.put, List.setIfInBounds_toArray, List.set_cons_zero, List.set_cons_succ]
            refine WL.val (by kernel_rfl) (.pointer (some ⟨gx, 4, none⟩)) (by go_simp) ?_
            simp only [Act.put, List.setIfInBounds_toArray, List.set_cons_zero, List.set_cons_succ]
            refine WL.midA (by kernel_rfl) 40 (.tmp 68) rfl gx 4 rfl (bytesA 32 (hof x.node)) _ (opA_nodes X5.out) Try.underlying40 rfl (Try.size40B _) ?_
            simp only [Act.put, List.setIfInBounds_toArray, List.set_cons_zero, List.set_cons_succ]
            refine WL.callF (by kernel_rfl) 48 _ _ rfl Try.in48 #[u_5, .agg (bytesA 32 (hof x.node))] (by simp [Act.eval]) ?_
            refine (rhash_any u_5 (L1 ++ [x.kind] ++ bform (lst x.key) ++ numL (zig x.n) ++ numL on) (hof x.node) w_5 H5.out.own (by have := Hbd.out; unfold tl at this; rw [if_neg (show ¬ txt x.kind = true by rw [q38]; decide), if_pos h11_2, if_pos q55, if_neg h16_3] at this; rw [Hon.out] at this; simp only [hl_len, List.length_append, List.length_cons, List.length_nil] at this ⊢; omega)).mono ?_
            rintro e w_6 hp
            obtain ⟨u_6, rfl, hq1, hq2, hq3⟩ := hp
            refine ⟨_, rfl, ?_⟩
            have H6 := Keep.mk (H5.out.step hq1 hq2 hq3)
            have X6 := Keep.mk (own_keeps H5.out.own X5.out (by decide) hq3)
            clear hq1 hq2 hq3
            clear c5_0 c5_1 c5_2 c5_3 c5_36
            have c6_0 := X6.out.c 0 (opA_0 x)
            have c6_1 := X6.out.c 1 (opA_1 x)
            have c6_2 := X6.out.c 2 (opA_2 x)
            have c6_3 := X6.out.c 3 (opA_3 x)
            have c6_36 := X6.out.c 36 (opA_36 x)
            simp only [Act.put, List.setIfInBounds_toArray, List.set_cons_zero, List.set_cons_succ]
            refine WL.val (by kernel_rfl) (u_6) (by go_simp) ?_
            simp only [Act.put, List.setIfInBounds_toArray, List.set_cons_zero, List.set_cons_succ]
            refine WL.nil ?_
            refine hK7 _ _ ?_
            refine wp_region_list (WL.out ?_)
            refine WL.val (by kernel_rfl) (.int .i64 (t : Int)) (by go_simp) ?_
            simp only [Act.put, List.setIfInBounds_toArray, List.set_cons_zero, List.set_cons_succ]
            refine WL.val (by kernel_rfl) (.int .i64 ((t : Int) + 1)) (by go_simp) ?_
            simp only [Act.put, List.setIfInBounds_toArray, List.set_cons_zero, List.set_cons_succ]
            refine WL.val (by kernel_rfl) (.int .i64 ((t : Int) + 1)) (by go_simp) ?_
            simp only [Act.put, List.setIfInBounds_toArray, List.set_cons_zero, List.set_cons_succ]
            refine WL.nil ?_
            have hE : L0 ++ numL l.length ++ (l.take (t + 1)).flatMap oneF = L1 ++ [x.kind] ++ bform (lst x.key) ++ numL (zig x.n) ++ numL on ++ hl 32 (hof x.node) := by
              rw [HFull.out]; unfold tl
              rw [if_neg (show ¬ txt x.kind = true by rw [q38]; decide), if_pos h11_2, if_pos q55, if_neg h16_3]
              rw [Hon.out]
              simp
            refine ⟨⟨t + 1, u_6, .pointer (some ⟨gx, 0, none⟩), .bool false, .bool true, .int .i64 (t : Int), .slice va l.length vc, .int .i64 (l.length : Int), .bool true, .int .i64 (t : Int), .int .i64 ((t : Int) + 1), .slice va l.length vc, .int .i64 (t : Int), .pointer (some ⟨gL, ofL + t * 37, none⟩), .agg (opA x), u0, .pointer (some ⟨gx, 0, none⟩), .int .i64 x.kind, .int .u8 x.kind, .slice (some ⟨w_0.heap.size, 0, none⟩) 1 1, u_1, u_1, .pointer (some ⟨gx, 1, none⟩), .string x.key, vb2, u_3, .pointer (some ⟨gx, 0, none⟩), .int .i64 x.kind, .bool false, .bool false, u39, u40, u41, u42, u43, .pointer (some ⟨gx, 0, none⟩), .int .i64 x.kind, .bool true, u_3, .pointer (some ⟨gx, 3, none⟩), .int .i64 x.n, .int .u64 (zig x.n : Int), u_4, .pointer (some ⟨gx, 0, none⟩), .int .i64 x.kind, .bool true, .bool true, u_4, .pointer (some ⟨gx, 4, none⟩), .pointer (some ⟨gx, 36, none⟩), .int .i64 x.op, .int .u64 (on : Int), u_5, .pointer (some ⟨gx, 4, none⟩), .pointer (some ⟨gx, 36, none⟩), .int .i64 x.op, .bool true, u_5, .pointer (some ⟨gx, 4, none⟩), .pointer (some ⟨gx, 4, none⟩), .agg (bytesA 32 (hof x.node)), u_6, rfl, by omega, by rw [hE]; exact H6.out⟩, ?_⟩
            simp only [intOf]; show l.length - ((t : Int) + 1).toNat < l.length - ((t : Int)).toNat; omega
        · have q55 := h14_0
          rw [h14_0]
          refine WL.val (by kernel_rfl) (.bool false) (by go_simp) ?_
          simp only [Act.put, List.setIfInBounds_toArray, List.set_cons_zero, List.set_cons_succ]
          refine WL.nil ?_
          refine hK27 _ _ ?_
          refine wp_cond_false rfl ?_
          refine wp_skip ?_
          refine hK7 _ _ ?_
          refine wp_region_list (WL.out ?_)
          refine WL.val (by kernel_rfl) (.int .i64 (t : Int)) (by go_simp) ?_
          simp only [Act.put, List.setIfInBounds_toArray, List.set_cons_zero, List.set_cons_succ]
          refine WL.val (by kernel_rfl) (.int .i64 ((t : Int) + 1)) (by go_simp) ?_
          simp only [Act.put, List.setIfInBounds_toArray, List.set_cons_zero, List.set_cons_succ]
          refine WL.val (by kernel_rfl) (.int .i64 ((t : Int) + 1)) (by go_simp) ?_
          simp only [Act.put, List.setIfInBounds_toArray, List.set_cons_zero, List.set_cons_succ]
          refine WL.nil ?_
          have hE : L0 ++ numL l.length ++ (l.take (t + 1)).flatMap oneF = L1 ++ [x.kind] ++ bform (lst x.key) ++ numL (zig x.n) := by
            rw [HFull.out]; unfold tl
            rw [if_neg (show ¬ txt x.kind = true by rw [q38]; decide), if_pos h11_2, if_neg (show ¬ hat x.kind = true by rw [q55]; decide)]
            simp
          refine ⟨⟨t + 1, u_4, .pointer (some ⟨gx, 0, none⟩), .bool false, .bool false, .int .i64 (t : Int), .slice va l.length vc, .int .i64 (l.length : Int), .bool true, .int .i64 (t : Int), .int .i64 ((t : Int) + 1), .slice va l.length vc, .int .i64 (t : Int), .pointer (some ⟨gL, ofL + t * 37, none⟩), .agg (opA x), u0, .pointer (some ⟨gx, 0, none⟩), .int .i64 x.kind, .int .u8 x.kind, .slice (some ⟨w_0.heap.size, 0, none⟩) 1 1, u_1, u_1, .pointer (some ⟨gx, 1, none⟩), .string x.key, vb2, u_3, .pointer (some ⟨gx, 0, none⟩), .int .i64 x.kind, .bool false, .bool false, u39, u40, u41, u42, u43, .pointer (some ⟨gx, 0, none⟩), .int .i64 x.kind, .bool true, u_3, .pointer (some ⟨gx, 3, none⟩), .int .i64 x.n, .int .u64 (zig x.n : Int), u_4, .pointer (some ⟨gx, 0, none⟩), .int .i64 x.kind, .bool false, .bool false, u56, u57, u58, u59, u60, u61, u62, u63, u64, u65, u66, u67, u68, u69, u70, rfl, by omega, by rw [hE]; exact H4.out⟩, ?_⟩
          simp only [intOf]; show l.length - ((t : Int) + 1).toNat < l.length - ((t : Int)).toNat; omega
      · skip
        refine WL.val (by kernel_rfl) (.bool false) (by go_simp) ?_
        simp only [Act.put, List.setIfInBounds_toArray, List.set_cons_zero, List.set_cons_succ]
        refine WL.nil ?_
        refine hK25 _ _ ?_
        refine wp_cond_false rfl ?_
        refine wp_skip ?_
        refine hK24 _ _ ?_
        refine wp_seq_k fun K30 hK30 => ?_
        refine wp_region_list (WL.out ?_)
        refine WL.val (by kernel_rfl) (.pointer (some ⟨gx, 0, none⟩)) (by go_simp) ?_
        simp only [Act.put, List.setIfInBounds_toArray, List.set_cons_zero, List.set_cons_succ]
        refine WL.val (by kernel_rfl) (.int .i64 x.kind) (by go_simp) ?_
        simp only [Act.put, List.setIfInBounds_toArray, List.set_cons_zero, List.set_cons_succ]
        refine WL.callF (by kernel_rfl) 75 _ _ rfl Try.in75 #[.int .i64 x.kind] (by simp [Act.eval]) ?_
        refine (hasAt_any x.kind w_3).mono ?_
        rintro e w_y ⟨rfl, hwy⟩
        rw [hwy]
        clear hwy w_y
        refine ⟨_, rfl, ?_⟩
        simp only [Act.put, List.setIfInBounds_toArray, List.set_cons_zero, List.set_cons_succ]
        refine WL.val (by kernel_rfl) (.bool (hat x.kind)) (by go_simp) ?_
        simp only [Act.put, List.setIfInBounds_toArray, List.set_cons_zero, List.set_cons_succ]
        refine WL.nil ?_
        refine hK30 _ _ ?_
        refine wp_seq_k fun K31 hK31 => ?_
        refine wp_region_list (WL.out ?_)
        rcases Bool.eq_false_or_eq_true (hat x.kind) with h14_0 | h14_0
        · have q55 := h14_0
          rw [h14_0]
          refine WL.val (by kernel_rfl) (.bool true) (by go_simp) ?_
          simp only [Act.put, List.setIfInBounds_toArray, List.set_cons_zero, List.set_cons_succ]
          refine WL.nil ?_
          refine hK31 _ _ ?_
          refine wp_cond_true rfl ?_
          refine wp_seq_k fun K32 hK32 => ?_
          refine wp_region_list (WL.out ?_)
          refine WL.val (by kernel_rfl) (u_3) (by go_simp) ?_
          simp only [Act.put, List.setIfInBounds_toArray, List.set_cons_zero, List.set_cons_succ]
          refine WL.val (by kernel_rfl) (.pointer (some ⟨gx, 4, none⟩)) (by go_simp) ?_
          simp only [Act.put, List.setIfInBounds_toArray, List.set_cons_zero, List.set_cons_succ]
          refine WL.val (by kernel_rfl) (.pointer (some ⟨gx, 36, none⟩)) (by go_simp) ?_
          simp only [Act.put, List.setIfInBounds_toArray, List.set_cons_zero, List.set_cons_succ]
          refine WL.val (by kernel_rfl) (.int .i64 x.op) (by go_simp) ?_
          simp only [Act.put, List.setIfInBounds_toArray, List.set_cons_zero, List.set_cons_succ]
          obtain ⟨on, hon⟩ : ∃ on : Nat, Keep (x.op = (on : Int)) := ⟨x.op.toNat, ⟨by have := (HHat.out q55).1; omega⟩⟩
          have hwo : IntKind.u64.wrap x.op = (on : Int) := by rw [hon.out, IntKind.wrap_u64]; have := (HHat.out q55).2; have := hon.out; omega
          have Hon : Keep (x.op.toNat = on) := ⟨by rw [hon.out, Int.toNat_natCast]⟩
          refine WL.val (by kernel_rfl) (.int .u64 (on : Int)) (by go_simp) ?_
          simp only [Act.put, List.setIfInBounds_toArray, List.set_cons_zero, List.set_cons_succ]
          refine WL.callF (by kernel_rfl) 47 _ _ rfl Try.in47 #[u_3, .int .u64 (on : Int)] (by simp [Act.eval]) ?_
          refine (rnum_any u_3 (L1 ++ [x.kind] ++ bform (lst x.key)) on w_3 H3.out.own (by have := (HHat.out q55).2; have := hon.out; omega) (by have := Hbd.out; unfold tl at this; rw [if_neg (show ¬ txt x.kind = true by rw [q38]; decide), if_neg h11_2, if_pos q55] at this; rw [Hon.out] at this; simp only [List.length_append, List.length_cons, List.length_nil] at this ⊢; omega)).mono ?_
          rintro e w_4 hp
          obtain ⟨u_4, rfl, hq1, hq2, hq3⟩ := hp
          refine ⟨_, rfl, ?_⟩
          have H4 := Keep.mk (H3.out.step hq1 hq2 hq3)
          have X4 := Keep.mk (own_keeps H3.out.own X3.out (by decide) hq3)
          clear hq1 hq2 hq3
          clear c3_0 c3_1 c3_2 c3_3 c3_36
          have c4_0 := X4.out.c 0 (opA_0 x)
          have c4_1 := X4.out.c 1 (opA_1 x)
          have c4_2 := X4.out.c 2 (opA_2 x)
          have c4_3 := X4.out.c 3 (opA_3 x)
          have c4_36 := X4.out.c 36 (opA_36 x)
          simp only [Act.put, List.setIfInBounds_toArray, List.set_cons_zero, List.set_cons_succ]
          refine WL.val (by kernel_rfl) (u_4) (by go_simp) ?_
          simp only [Act.put, List.setIfInBounds_toArray, List.set_cons_zero, List.set_cons_succ]
          refine WL.nil ?_
          refine hK32 _ _ ?_
          refine wp_seq_k fun K33 hK33 => ?_
          refine wp_region_list (WL.out ?_)
          refine WL.val (by kernel_rfl) (.pointer (some ⟨gx, 4, none⟩)) (by go_simp) ?_
          simp only [Act.put, List.setIfInBounds_toArray, List.set_cons_zero, List.set_cons_succ]
          refine WL.val (by kernel_rfl) (.pointer (some ⟨gx, 36, none⟩)) (by go_simp) ?_
          simp only [Act.put, List.setIfInBounds_toArray, List.set_cons_zero, List.set_cons_succ]
          refine WL.val (by kernel_rfl) (.int .i64 x.op) (by go_simp) ?_
          simp only [Act.put, List.setIfInBounds_toArray, List.set_cons_zero, List.set_cons_succ]
          by_cases h16_3 : x.op = 0
          · skip
            refine WL.val (by kernel_rfl) (.bool false) (by go_simp) ?_
            simp only [Act.put, List.setIfInBounds_toArray, List.set_cons_zero, List.set_cons_succ]
            refine WL.nil ?_
            refine hK33 _ _ ?_
            refine wp_cond_false rfl ?_
            refine wp_skip ?_
            refine hK7 _ _ ?_
            refine wp_region_list (WL.out ?_)
            refine WL.val (by kernel_rfl) (.int .i64 (t : Int)) (by go_simp) ?_
            simp only [Act.put, List.setIfInBounds_toArray, List.set_cons_zero, List.set_cons_succ]
            refine WL.val (by kernel_rfl) (.int .i64 ((t : Int) + 1)) (by go_simp) ?_
            simp only [Act.put, List.setIfInBounds_toArray, List.set_cons_zero, List.set_cons_succ]
            refine WL.val (by kernel_rfl) (.int .i64 ((t : Int) + 1)) (by go_simp) ?_
            simp only [Act.put, List.setIfInBounds_toArray, List.set_cons_zero, List.set_cons_succ]
            refine WL.nil ?_
            have hE : L0 ++ numL l.length ++ (l.take (t + 1)).flatMap oneF = L1 ++ [x.kind] ++ bform (lst x.key) ++ numL on := by
              rw [HFull.out]; unfold tl
              rw [if_neg (show ¬ txt x.kind = true by rw [q38]; decide), if_neg h11_2, if_pos q55, if_pos h16_3]
              rw [Hon.out]
              simp
            refine ⟨⟨t + 1, u_4, .pointer (some ⟨gx, 0, none⟩), .bool false, .bool true, .int .i64 (t : Int), .slice va l.length vc, .int .i64 (l.length : Int), .bool true, .int .i64 (t : Int), .int .i64 ((t : Int) + 1), .slice va l.length vc, .int .i64 (t : Int), .pointer (some ⟨gL, ofL + t * 37, none⟩), .agg (opA x), u0, .pointer (some ⟨gx, 0, none⟩), .int .i64 x.kind, .int .u8 x.kind, .slice (some ⟨w_0.heap.size, 0, none⟩) 1 1, u_1, u_1, .pointer (some ⟨gx, 1, none⟩), .string x.key, vb2, u_3, .pointer (some ⟨gx, 0, none⟩), .int .i64 x.kind, .bool false, .bool false, u39, u40, u41, u42, u43, .pointer (some ⟨gx, 0, none⟩), .int .i64 x.kind, .bool false, u47, u48, u49, u50, u51, .pointer (some ⟨gx, 0, none⟩), .int .i64 x.kind, .bool true, .bool true, u_3, .pointer (some ⟨gx, 4, none⟩), .pointer (some ⟨gx, 36, none⟩), .int .i64 x.op, .int .u64 (on : Int), u_4, .pointer (some ⟨gx, 4, none⟩), .pointer (some ⟨gx, 36, none⟩), .int .i64 x.op, .bool false, u66, u67, u68, u69, u70, rfl, by omega, by rw [hE]; exact H4.out⟩, ?_⟩
            simp only [intOf]; show l.length - ((t : Int) + 1).toNat < l.length - ((t : Int)).toNat; omega
          · skip
            refine WL.val (by kernel_rfl) (.bool true) (by go_simp) ?_
            simp only [Act.put, List.setIfInBounds_toArray, List.set_cons_zero, List.set_cons_succ]
            refine WL.nil ?_
            refine hK33 _ _ ?_
            refine wp_cond_true rfl ?_
            refine wp_region_list (WL.out ?_)
            refine WL.val (by kernel_rfl) (u_4) (by go_simp) ?_
            simp only [Act.put, List.setIfInBounds_toArray, List.set_cons_zero, List.set_cons_succ]
            refine WL.val (by kernel_rfl) (.pointer (some ⟨gx, 4, none⟩)) (by go_simp) ?_
            simp only [Act.put, List.setIfInBounds_toArray, List.set_cons_zero, List.set_cons_succ]
            refine WL.val (by kernel_rfl) (.pointer (some ⟨gx, 4, none⟩)) (by go_simp) ?_
            simp only [Act.put, List.setIfInBounds_toArray, List.set_cons_zero, List.set_cons_succ]
            refine WL.midA (by kernel_rfl) 40 (.tmp 68) rfl gx 4 rfl (bytesA 32 (hof x.node)) _ (opA_nodes X4.out) Try.underlying40 rfl (Try.size40B _) ?_
            simp only [Act.put, List.setIfInBounds_toArray, List.set_cons_zero, List.set_cons_succ]
            refine WL.callF (by kernel_rfl) 48 _ _ rfl Try.in48 #[u_4, .agg (bytesA 32 (hof x.node))] (by simp [Act.eval]) ?_
            refine (rhash_any u_4 (L1 ++ [x.kind] ++ bform (lst x.key) ++ numL on) (hof x.node) w_4 H4.out.own (by have := Hbd.out; unfold tl at this; rw [if_neg (show ¬ txt x.kind = true by rw [q38]; decide), if_neg h11_2, if_pos q55, if_neg h16_3] at this; rw [Hon.out] at this; simp only [hl_len, List.length_append, List.length_cons, List.length_nil] at this ⊢; omega)).mono ?_
            rintro e w_5 hp
            obtain ⟨u_5, rfl, hq1, hq2, hq3⟩ := hp
            refine ⟨_, rfl, ?_⟩
            have H5 := Keep.mk (H4.out.step hq1 hq2 hq3)
            have X5 := Keep.mk (own_keeps H4.out.own X4.out (by decide) hq3)
            clear hq1 hq2 hq3
            clear c4_0 c4_1 c4_2 c4_3 c4_36
            have c5_0 := X5.out.c 0 (opA_0 x)
            have c5_1 := X5.out.c 1 (opA_1 x)
            have c5_2 := X5.out.c 2 (opA_2 x)
            have c5_3 := X5.out.c 3 (opA_3 x)
            have c5_36 := X5.out.c 36 (opA_36 x)
            simp only [Act.put, List.setIfInBounds_toArray, List.set_cons_zero, List.set_cons_succ]
            refine WL.val (by kernel_rfl) (u_5) (by go_simp) ?_
            simp only [Act.put, List.setIfInBounds_toArray, List.set_cons_zero, List.set_cons_succ]
            refine WL.nil ?_
            refine hK7 _ _ ?_
            refine wp_region_list (WL.out ?_)
            refine WL.val (by kernel_rfl) (.int .i64 (t : Int)) (by go_simp) ?_
            simp only [Act.put, List.setIfInBounds_toArray, List.set_cons_zero, List.set_cons_succ]
            refine WL.val (by kernel_rfl) (.int .i64 ((t : Int) + 1)) (by go_simp) ?_
            simp only [Act.put, List.setIfInBounds_toArray, List.set_cons_zero, List.set_cons_succ]
            refine WL.val (by kernel_rfl) (.int .i64 ((t : Int) + 1)) (by go_simp) ?_
            simp only [Act.put, List.setIfInBounds_toArray, List.set_cons_zero, List.set_cons_succ]
            refine WL.nil ?_
            have hE : L0 ++ numL l.length ++ (l.take (t + 1)).flatMap oneF = L1 ++ [x.kind] ++ bform (lst x.key) ++ numL on ++ hl 32 (hof x.node) := by
              rw [HFull.out]; unfold tl
              rw [if_neg (show ¬ txt x.kind = true by rw [q38]; decide), if_neg h11_2, if_pos q55, if_neg h16_3]
              rw [Hon.out]
              simp
            refine ⟨⟨t + 1, u_5, .pointer (some ⟨gx, 0, none⟩), .bool false, .bool true, .int .i64 (t : Int), .slice va l.length vc, .int .i64 (l.length : Int), .bool true, .int .i64 (t : Int), .int .i64 ((t : Int) + 1), .slice va l.length vc, .int .i64 (t : Int), .pointer (some ⟨gL, ofL + t * 37, none⟩), .agg (opA x), u0, .pointer (some ⟨gx, 0, none⟩), .int .i64 x.kind, .int .u8 x.kind, .slice (some ⟨w_0.heap.size, 0, none⟩) 1 1, u_1, u_1, .pointer (some ⟨gx, 1, none⟩), .string x.key, vb2, u_3, .pointer (some ⟨gx, 0, none⟩), .int .i64 x.kind, .bool false, .bool false, u39, u40, u41, u42, u43, .pointer (some ⟨gx, 0, none⟩), .int .i64 x.kind, .bool false, u47, u48, u49, u50, u51, .pointer (some ⟨gx, 0, none⟩), .int .i64 x.kind, .bool true, .bool true, u_3, .pointer (some ⟨gx, 4, none⟩), .pointer (some ⟨gx, 36, none⟩), .int .i64 x.op, .int .u64 (on : Int), u_4, .pointer (some ⟨gx, 4, none⟩), .pointer (some ⟨gx, 36, none⟩), .int .i64 x.op, .bool true, u_4, .pointer (some ⟨gx, 4, none⟩), .pointer (some ⟨gx, 4, none⟩), .agg (bytesA 32 (hof x.node)), u_5, rfl, by omega, by rw [hE]; exact H5.out⟩, ?_⟩
            simp only [intOf]; show l.length - ((t : Int) + 1).toNat < l.length - ((t : Int)).toNat; omega
        · have q55 := h14_0
          rw [h14_0]
          refine WL.val (by kernel_rfl) (.bool false) (by go_simp) ?_
          simp only [Act.put, List.setIfInBounds_toArray, List.set_cons_zero, List.set_cons_succ]
          refine WL.nil ?_
          refine hK31 _ _ ?_
          refine wp_cond_false rfl ?_
          refine wp_skip ?_
          refine hK7 _ _ ?_
          refine wp_region_list (WL.out ?_)
          refine WL.val (by kernel_rfl) (.int .i64 (t : Int)) (by go_simp) ?_
          simp only [Act.put, List.setIfInBounds_toArray, List.set_cons_zero, List.set_cons_succ]
          refine WL.val (by kernel_rfl) (.int .i64 ((t : Int) + 1)) (by go_simp) ?_
          simp only [Act.put, List.setIfInBounds_toArray, List.set_cons_zero, List.set_cons_succ]
          refine WL.val (by kernel_rfl) (.int .i64 ((t : Int) + 1)) (by go_simp) ?_
          simp only [Act.put, List.setIfInBounds_toArray, List.set_cons_zero, List.set_cons_succ]
          refine WL.nil ?_
          have hE : L0 ++ numL l.length ++ (l.take (t + 1)).flatMap oneF = L1 ++ [x.kind] ++ bform (lst x.key) := by
            rw [HFull.out]; unfold tl
            rw [if_neg (show ¬ txt x.kind = true by rw [q38]; decide), if_neg h11_2, if_neg (show ¬ hat x.kind = true by rw [q55]; decide)]
            simp
          refine ⟨⟨t + 1, u_3, .pointer (some ⟨gx, 0, none⟩), .bool false, .bool false, .int .i64 (t : Int), .slice va l.length vc, .int .i64 (l.length : Int), .bool true, .int .i64 (t : Int), .int .i64 ((t : Int) + 1), .slice va l.length vc, .int .i64 (t : Int), .pointer (some ⟨gL, ofL + t * 37, none⟩), .agg (opA x), u0, .pointer (some ⟨gx, 0, none⟩), .int .i64 x.kind, .int .u8 x.kind, .slice (some ⟨w_0.heap.size, 0, none⟩) 1 1, u_1, u_1, .pointer (some ⟨gx, 1, none⟩), .string x.key, vb2, u_3, .pointer (some ⟨gx, 0, none⟩), .int .i64 x.kind, .bool false, .bool false, u39, u40, u41, u42, u43, .pointer (some ⟨gx, 0, none⟩), .int .i64 x.kind, .bool false, u47, u48, u49, u50, u51, .pointer (some ⟨gx, 0, none⟩), .int .i64 x.kind, .bool false, .bool false, u56, u57, u58, u59, u60, u61, u62, u63, u64, u65, u66, u67, u68, u69, u70, rfl, by omega, by rw [hE]; exact H3.out⟩, ?_⟩
          simp only [intOf]; show l.length - ((t : Int) + 1).toNat < l.length - ((t : Int)).toNat; omega
  · have hte : Keep (t = l.length) := ⟨by omega⟩
    have htl' : ¬ (t : Int) < (l.length : Int) := by omega
    refine wp_seq_k fun K34 hK34 => ?_
    refine wp_seq_k fun K35 hK35 => ?_
    refine wp_region_list (WL.out ?_)
    refine WL.val (by kernel_rfl) (.int .i64 (t : Int)) (by go_simp) ?_
    simp only [Act.put, List.setIfInBounds_toArray, List.set_cons_zero, List.set_cons_succ]
    refine WL.val (by kernel_rfl) (.slice va l.length vc) (by go_simp) ?_
    simp only [Act.put, List.setIfInBounds_toArray, List.set_cons_zero, List.set_cons_succ]
    refine WL.val (by kernel_rfl) (.int .i64 (l.length : Int)) (by go_simp) ?_
    simp only [Act.put, List.setIfInBounds_toArray, List.set_cons_zero, List.set_cons_succ]
    refine WL.val (by kernel_rfl) (.bool false) (by go_simp) ?_
    simp only [Act.put, List.setIfInBounds_toArray, List.set_cons_zero, List.set_cons_succ]
    refine WL.nil ?_
    refine hK35 _ _ ?_
    refine wp_cond_false rfl ?_
    refine wp_exit ?_
    refine hK3 _ _ ?_
    refine wp_seq_k fun K36 hK36 => ?_
    refine wp_region_list (WL.out ?_)
    refine WL.val (by kernel_rfl) (u0) (by go_simp) ?_
    simp only [Act.put, List.setIfInBounds_toArray, List.set_cons_zero, List.set_cons_succ]
    refine WL.val (by kernel_rfl) (u0) (by go_simp) ?_
    simp only [Act.put, List.setIfInBounds_toArray, List.set_cons_zero, List.set_cons_succ]
    refine WL.nil ?_
    refine hK36 _ _ ?_
    refine wp_ret ?_
    go_ret
    rw [hte.out, List.take_length, List.append_assoc] at hS
    exact ⟨_, rfl, hS.own, hS.mv, hS.gr⟩

theorem rput_any (v : Value) (L0 : List Int) (vl : Value) (l : List OpV) (w : World) (h : Own w v L0) (hl : OpsAt w vl l) (hok : ∀ x ∈ l, OpOk x)
    (hsep : ∀ k, vl.ownBlock = some k → v.ownBlock ≠ some k) (hC : (chk l).1 = 0) (hbb : L0.length + (formL l).length ≤ 200000000000000) :
    Calls Try.prog 49 #[v, vl] w (LayPost v (L0 ++ formL l) w) :=
  rput_anyE v L0 vl l w h hl hok (fun _ => hsep) hC hbb
end Go.Proofs.Ytgpgnldcdimmbaa
namespace Go.Proofs.Ytgpgnldcdimmbaa
open Go.RowKit
set_option linter.unusedSimpArgs false
set_option linter.unusedVariables false

theorem Try.in28 (w : World) (vs : Array Value) : (callFunc 28 vs).run Try.prog w = .ok (.enter 28 vs) w := by kernel_rfl
theorem Try.in15 (w : World) (vs : Array Value) : (callFunc 15 vs).run Try.prog w = .ok (.enter 15 vs) w := by kernel_rfl
theorem Try.in11 (w : World) (vs : Array Value) : (callFunc 11 vs).run Try.prog w = .ok (.enter 11 vs) w := by kernel_rfl
structure OB (w0 : World) (v : Value) (l : List Int) (w1 : World) : Prop where
  own : Own w1 v l
  new : ∀ k, v.ownBlock = some k → w0.heap.size ≤ k
  bel : Below w0.heap.size w0 w1
theorem OB.step {w0 w1 w2 : World} {v v' : Value} {l l' : List Int} (h : OB w0 v l w1) (h1 : Own w2 v' l') (h2 : Moved w1 v v') (h3 : Grown w1 w2 fun k => v.ownBlock = some k) : OB w0 v' l' w2 where
  own := h1
  new := fun k hk => by
    rcases h2 with e | ⟨j, e1, e2⟩
    · rw [e] at hk; exact h.new k hk
    · rw [e1] at hk; cases hk; exact Nat.le_trans h.bel.size e2
  bel := h.bel.trans (h3.to_below (fun k hk e => by have := h.new k e; omega) h.bel.size)
theorem bsA (c : Int) (w : World) : (Instr.buildSlice 28 2 #[(0, .int .u8 1), (1, .int .u8 c)]).run Try.prog w = .ok (.slice (some ⟨w.heap.size, 0, none⟩) 2 2) (w.alloc (.cells (bv [1, c]).toArray 5)) := by kernel_rfl
theorem obA (c : Int) (w : World) : OB w (.slice (some ⟨w.heap.size, 0, none⟩) 2 2) [1, c] (w.alloc (.cells (bv [1, c]).toArray 5)) :=
  ⟨own_done w [1, c] (by simp), fun k hk => by simp [Value.ownBlock] at hk; omega, below_new w _⟩
def BlkP (N : NodeV) (w : World) (e : Ending) (w' : World) : Prop := ∃ v, e = .returned v ∧ Own w' v (blkL N) ∧ (∀ k, v.ownBlock = some k → w.heap.size ≤ k) ∧ Below w.heap.size w w'
set_option maxRecDepth 8000 in
set_option maxHeartbeats 2000000 in
theorem block_any (N : NodeV) (vp vo : Value) (w : World) (hN : NdAt w N vp vo) (hc : chkN N = 0) : Calls Try.prog 28 #[.agg (ndA N.au N.ck vp vo)] w (BlkP N w) := by
  obtain ⟨pa, pc, rfl⟩ := hN.ps.form
  have HN := Keep.mk hN
  obtain ⟨h0, h1⟩ := chkN_ok hc
  have Hh := Keep.mk (headE_ok h0)
  have Hc := Keep.mk h1
  unfold BlkP
  clear hN hc h0 h1
  go_enter Try.func28, Try.ntmps28
  refine wp_seq_k fun K1 hK1 => ?_
  refine wp_region_list (WL.out ?_)
  refine WL.box (by kernel_rfl) 27 (.tmp 0) rfl _ rfl ?_
  have HX1 := Keep.mk (Blk.new w 27 (ndA N.au N.ck (.slice pa N.ps.length pc) vo))
  have B1 := Keep.mk (below_new w (.cells (ndA N.au N.ck (.slice pa N.ps.length pc) vo) 27))
  generalize w.alloc (.cells (ndA N.au N.ck (.slice pa N.ps.length pc) vo) 27) = w1 at *
  have HN1 := Keep.mk (HN.out.below B1.out)
  have Hs1 : Keep (w.heap.size < w1.heap.size) := ⟨HX1.out.lt⟩
  have B1x : Keep (w.heap.size ≤ w1.heap.size) := ⟨B1.out.size⟩
  generalize hgg : w.heap.size = g at *
  have d0 := HX1.out.c 0 (nd_0 _ _ _ _)
  have d1 := HX1.out.c 1 (nd_1 _ _ _ _)
  have d2 := HX1.out.c 2 (nd_2 _ _ _ _)
  have d3 := HX1.out.c 3 (nd_3 _ _ _ _)
  have hw8 : IntKind.u8.wrap N.au = N.au := by rw [IntKind.wrap_u8]; have := Hh.out.1; omega
  simp only [Act.put, List.setIfInBounds_toArray, List.set_cons_zero, List.set_cons_succ]
  refine WL.val (by kernel_rfl) (.slice none 0 0) (by go_simp) ?_
  simp only [Act.put, List.setIfInBounds_toArray, List.set_cons_zero, List.set_cons_succ]
  refine WL.nil ?_
  refine hK1 _ _ ?_
  refine wp_seq_k fun K2 hK2 => ?_
  refine wp_region_list (WL.out ?_)
  refine WL.val (by kernel_rfl) (.pointer (some ⟨g, 0, none⟩)) (by go_simp) ?_
  simp only [Act.put, List.setIfInBounds_toArray, List.set_cons_zero, List.set_cons_succ]
  refine WL.val (by kernel_rfl) (.int .i64 N.au) (by go_simp) ?_
  simp only [Act.put, List.setIfInBounds_toArray, List.set_cons_zero, List.set_cons_succ]
  refine WL.val (by kernel_rfl) (.int .u8 N.au) (by go_simp) ?_
  simp only [Act.put, List.setIfInBounds_toArray, List.set_cons_zero, List.set_cons_succ]
  refine WL.bs (by kernel_rfl) 28 2 _ rfl #[(0, .int .u8 1), (1, .int .u8 N.au)] (by simp [Act.eval]) _ _ (bsA N.au w1) ?_
  have O2 := Keep.mk (obA N.au w1)
  generalize w1.alloc (.cells (bv [1, N.au]).toArray 5) = w2 at *
  generalize Value.slice (some ⟨w1.heap.size, 0, none⟩) 2 2 = v2 at *
  clear d0 d1 d2 d3 hw8
  have d1 := (HX1.out.below O2.out.bel HX1.out.lt).c 1 (nd_1 _ _ _ _)
  obtain ⟨ckn, hck⟩ : ∃ ckn : Nat, N.ck = (ckn : Int) := ⟨N.ck.toNat, by have := Hh.out.2.1; omega⟩
  have Hck := Keep.mk hck
  have hw6 : IntKind.u64.wrap N.ck = (ckn : Int) := by rw [hck, IntKind.wrap_u64]; have := Hh.out.2.2.1; omega
  have Hckb : Keep (ckn ≤ 4096) := ⟨by have := Hh.out.2.2.1; omega⟩
  clear hck
  simp only [Act.put, List.setIfInBounds_toArray, List.set_cons_zero, List.set_cons_succ]
  refine WL.val (by kernel_rfl) (v2) (by go_simp) ?_
  simp only [Act.put, List.setIfInBounds_toArray, List.set_cons_zero, List.set_cons_succ]
  refine WL.nil ?_
  refine hK2 _ _ ?_
  refine wp_seq_k fun K3 hK3 => ?_
  refine wp_region_list (WL.out ?_)
  refine WL.val (by kernel_rfl) (v2) (by go_simp) ?_
  simp only [Act.put, List.setIfInBounds_toArray, List.set_cons_zero, List.set_cons_succ]
  refine WL.val (by kernel_rfl) (.pointer (some ⟨g, 1, none⟩)) (by go_simp) ?_
  simp only [Act.put, List.setIfInBounds_toArray, List.set_cons_zero, List.set_cons_succ]
  refine WL.val (by kernel_rfl) (.int .i64 N.ck) (by go_simp) ?_
  simp only [Act.put, List.setIfInBounds_toArray, List.set_cons_zero, List.set_cons_succ]
  refine WL.val (by kernel_rfl) (.int .u64 (ckn : Int)) (by go_simp) ?_
  simp only [Act.put, List.setIfInBounds_toArray, List.set_cons_zero, List.set_cons_succ]
  refine WL.callF (by kernel_rfl) 47 _ _ rfl Try.in47 #[v2, .int .u64 (ckn : Int)] (by simp [Act.eval]) ?_
  refine (rnum_any v2 [1, N.au] ckn w2 O2.out.own (by have := Hckb.out; omega) (by have := numL_len ckn; simp only [List.length_cons, List.length_nil]; omega)).mono ?_
  rintro e w3 ⟨v3, rfl, h1, h2, h3⟩
  refine ⟨_, rfl, ?_⟩
  have O3 := Keep.mk (O2.out.step h1 h2 h3)
  clear h1 h2 h3 d1 hw6
  have d2 := (HX1.out.below O3.out.bel HX1.out.lt).c 2 (nd_2 _ _ _ _)
  have hw7 : IntKind.u64.wrap (N.ps.length : Int) = (N.ps.length : Int) := by rw [IntKind.wrap_u64]; have := HN.out.lp; omega
  simp only [Act.put, List.setIfInBounds_toArray, List.set_cons_zero, List.set_cons_succ]
  refine WL.val (by kernel_rfl) (v3) (by go_simp) ?_
  simp only [Act.put, List.setIfInBounds_toArray, List.set_cons_zero, List.set_cons_succ]
  refine WL.nil ?_
  refine hK3 _ _ ?_
  refine wp_seq_k fun K4 hK4 => ?_
  refine wp_region_list (WL.out ?_)
  refine WL.val (by kernel_rfl) (v3) (by go_simp) ?_
  simp only [Act.put, List.setIfInBounds_toArray, List.set_cons_zero, List.set_cons_succ]
  refine WL.val (by kernel_rfl) (.pointer (some ⟨g, 2, none⟩)) (by go_simp) ?_
  simp only [Act.put, List.setIfInBounds_toArray, List.set_cons_zero, List.set_cons_succ]
  refine WL.val (by kernel_rfl) (.slice pa N.ps.length pc) (by go_simp) ?_
  simp only [Act.put, List.setIfInBounds_toArray, List.set_cons_zero, List.set_cons_succ]
  refine WL.val (by kernel_rfl) (.int .i64 (N.ps.length : Int)) (by go_simp) ?_
  simp only [Act.put, List.setIfInBounds_toArray, List.set_cons_zero, List.set_cons_succ]
  refine WL.val (by kernel_rfl) (.int .u64 (N.ps.length : Int)) (by go_simp) ?_
  simp only [Act.put, List.setIfInBounds_toArray, List.set_cons_zero, List.set_cons_succ]
  refine WL.callF (by kernel_rfl) 47 _ _ rfl Try.in47 #[v3, .int .u64 (N.ps.length : Int)] (by simp [Act.eval]) ?_
  refine (rnum_any v3 _ N.ps.length w3 O3.out.own (by have := HN.out.lp; omega) (by have := numL_len ckn; have := numL_len N.ps.length; simp only [List.length_append, List.length_cons, List.length_nil]; omega)).mono ?_
  rintro e w4 ⟨v4, rfl, h1, h2, h3⟩
  refine ⟨_, rfl, ?_⟩
  have O4' := O3.out.step h1 h2 h3
  have O4 : Keep (OB w1 v4 (headL N) w4) := ⟨by unfold headL; rw [show N.ck.toNat = ckn by rw [Hck.out]; rfl]; exact O4'⟩
  clear h1 h2 h3 d2 hw7 O4'
  simp only [Act.put, List.setIfInBounds_toArray, List.set_cons_zero, List.set_cons_succ]
  refine WL.val (by kernel_rfl) (v4) (by go_simp) ?_
  simp only [Act.put, List.setIfInBounds_toArray, List.set_cons_zero, List.set_cons_succ]
  refine WL.nil ?_
  refine hK4 _ _ ?_
  refine wp_seq_k fun K5 hK5 => ?_
  refine wp_seq_k fun K6 hK6 => ?_
  refine wp_region_list (WL.out ?_)
  refine WL.val (by kernel_rfl) (.int .i64 0) (by go_simp) ?_
  simp only [Act.put, List.setIfInBounds_toArray, List.set_cons_zero, List.set_cons_succ]
  refine WL.nil ?_
  refine hK6 _ _ ?_
  refine wp_block ?_
  refine wp_loop (fun ac wr => ∃ (t : Nat) (u3 u20 u21 u22 u23 u24 u25 u26 u27 u28 u29 u30 u31 u32 u33 : Value), ac = { tmps := #[.agg (ndA N.au N.ck (.slice pa N.ps.length pc) vo), .pointer (some ⟨g, 0, none⟩), .slice none 0 0, u3, .int .i64 (t : Int), .pointer (some ⟨g, 0, none⟩), .int .i64 N.au, .int .u8 N.au, v2, v2, .pointer (some ⟨g, 1, none⟩), .int .i64 N.ck, .int .u64 (ckn : Int), v3, v3, .pointer (some ⟨g, 2, none⟩), .slice pa N.ps.length pc, .int .i64 (N.ps.length : Int), .int .u64 (N.ps.length : Int), v4, u20, u21, u22, u23, u24, u25, u26, u27, u28, u29, u30, u31, u32, u33, undef, undef, undef, undef], defers := [] } ∧ t ≤ N.ps.length ∧ OB w1 u3 (headL N ++ (N.ps.take t).flatMap hB) wr) (fun a _ => N.ps.length - (intOf (a.tmps.getD 4 undef)).toNat) ⟨0, v4, undef, undef, undef, undef, undef, undef, undef, undef, undef, undef, undef, undef, undef, undef, rfl, by omega, by simpa using O4.out⟩ ?_
  rintro ac wr ⟨t, u3, u20, u21, u22, u23, u24, u25, u26, u27, u28, u29, u30, u31, u32, u33, rfl, ht, hO⟩
  have JO := Keep.mk hO
  clear hO
  have d2 := (HX1.out.below JO.out.bel HX1.out.lt).c 2 (nd_2 _ _ _ _)
  have d3 := (HX1.out.below JO.out.bel HX1.out.lt).c 3 (nd_3 _ _ _ _)
  by_cases htl : t < N.ps.length
  · have htl' : (t : Int) < (N.ps.length : Int) := by omega
    have hwr1 : IntKind.i64.wrap ((t : Int) + 1) = (t : Int) + 1 := by rw [IntKind.wrap_i64]; have := HN.out.lp; omega
    obtain ⟨gp, op, hpa, hlen, hcap, hrg⟩ := ((HN1.out.below JO.out.bel).ps).at (by omega)
    have hel := Sh.rangeAt_elem hrg t htl
    obtain ⟨hh, hhh⟩ : ∃ hh, hh = N.ps[t] := ⟨_, rfl⟩
    rw [← hhh] at hel
    have Jhh := Keep.mk hhh
    clear hlen hcap hrg hhh
    refine wp_seq_k fun K7 hK7 => ?_
    refine wp_seq_k fun K8 hK8 => ?_
    refine wp_region_list (WL.out ?_)
    refine WL.val (by kernel_rfl) (.int .i64 (t : Int)) (by go_simp) ?_
    simp only [Act.put, List.setIfInBounds_toArray, List.set_cons_zero, List.set_cons_succ]
    refine WL.val (by kernel_rfl) (.pointer (some ⟨g, 2, none⟩)) (by go_simp) ?_
    simp only [Act.put, List.setIfInBounds_toArray, List.set_cons_zero, List.set_cons_succ]
    refine WL.val (by kernel_rfl) (.slice pa N.ps.length pc) (by go_simp) ?_
    simp only [Act.put, List.setIfInBounds_toArray, List.set_cons_zero, List.set_cons_succ]
    refine WL.val (by kernel_rfl) (.int .i64 (N.ps.length : Int)) (by go_simp) ?_
    simp only [Act.put, List.setIfInBounds_toArray, List.set_cons_zero, List.set_cons_succ]
    refine WL.val (by kernel_rfl) (.bool true) (by go_simp) ?_
    simp only [Act.put, List.setIfInBounds_toArray, List.set_cons_zero, List.set_cons_succ]
    refine WL.nil ?_
    refine hK8 _ _ ?_
    refine wp_cond_true rfl ?_
    refine wp_skip ?_
    refine hK7 _ _ ?_
    refine wp_seq_k fun K9 hK9 => ?_
    refine wp_block ?_
    refine wp_region_list (WL.out ?_)
    refine WL.val (by kernel_rfl) (u3) (by go_simp) ?_
    simp only [Act.put, List.setIfInBounds_toArray, List.set_cons_zero, List.set_cons_succ]
    refine WL.val (by kernel_rfl) (.pointer (some ⟨g, 2, none⟩)) (by go_simp) ?_
    simp only [Act.put, List.setIfInBounds_toArray, List.set_cons_zero, List.set_cons_succ]
    refine WL.val (by kernel_rfl) (.slice pa N.ps.length pc) (by go_simp) ?_
    simp only [Act.put, List.setIfInBounds_toArray, List.set_cons_zero, List.set_cons_succ]
    refine WL.val (by kernel_rfl) (.int .i64 (t : Int)) (by go_simp) ?_
    simp only [Act.put, List.setIfInBounds_toArray, List.set_cons_zero, List.set_cons_succ]
    refine WL.val (by kernel_rfl) (.pointer (some ⟨gp, op + t * 32, none⟩)) (by go_simp) ?_
    simp only [Act.put, List.setIfInBounds_toArray, List.set_cons_zero, List.set_cons_succ]
    refine WL.mid (by kernel_rfl) 40 (.tmp 31) rfl gp (op + t * 32) rfl (Sh.encH hh) _ hel Try.underlying40 rfl (Try.sizeHL hh) ?_
    rw [enc_load]
    simp only [Act.put, List.setIfInBounds_toArray, List.set_cons_zero, List.set_cons_succ]
    refine WL.callF (by kernel_rfl) 48 _ _ rfl Try.in48 #[u3, .agg (bytesA 32 hh.f)] (by simp [Act.eval]) ?_
    refine (rhash_any u3 _ hh.f wr JO.out.own (by have h1 := headL_len N; have h2 := HN.out.lp; have h3 := hB_flat (N.ps.take t); have h4 := List.length_take_le t N.ps; rw [List.length_append]; omega)).mono ?_
    rintro e wz ⟨vz, rfl, h1, h2, h3⟩
    refine ⟨_, rfl, ?_⟩
    have JO2 := Keep.mk (JO.out.step h1 h2 h3)
    clear h1 h2 h3
    simp only [Act.put, List.setIfInBounds_toArray, List.set_cons_zero, List.set_cons_succ]
    refine WL.val (by kernel_rfl) (vz) (by go_simp) ?_
    simp only [Act.put, List.setIfInBounds_toArray, List.set_cons_zero, List.set_cons_succ]
    refine WL.nil ?_
    refine hK9 _ _ ?_
    refine wp_region_list (WL.out ?_)
    refine WL.val (by kernel_rfl) (.int .i64 (t : Int)) (by go_simp) ?_
    simp only [Act.put, List.setIfInBounds_toArray, List.set_cons_zero, List.set_cons_succ]
    refine WL.val (by kernel_rfl) (.int .i64 ((t : Int) + 1)) (by go_simp) ?_
    simp only [Act.put, List.setIfInBounds_toArray, List.set_cons_zero, List.set_cons_succ]
    refine WL.val (by kernel_rfl) (.int .i64 ((t : Int) + 1)) (by go_simp) ?_
    simp only [Act.put, List.setIfInBounds_toArray, List.set_cons_zero, List.set_cons_succ]
    refine WL.nil ?_
    have hnx : headL N ++ (N.ps.take (t + 1)).flatMap hB = headL N ++ (N.ps.take t).flatMap hB ++ hl 32 hh.f := by rw [List.take_succ_eq_append_getElem htl, List.flatMap_append, ← Jhh.out, List.append_assoc]; simp [hB]
    refine ⟨⟨t + 1, vz, .int .i64 (t : Int), .pointer (some ⟨g, 2, none⟩), .slice pa N.ps.length pc, .int .i64 (N.ps.length : Int), .bool true, .int .i64 (t : Int), .int .i64 ((t : Int) + 1), u3, .pointer (some ⟨g, 2, none⟩), .slice pa N.ps.length pc, .int .i64 (t : Int), .pointer (some ⟨gp, op + t * 32, none⟩), .agg (bytesA 32 hh.f), vz, rfl, by omega, by rw [hnx]; exact JO2.out⟩, ?_⟩
    simp only [intOf]; show N.ps.length - ((t : Int) + 1).toNat < N.ps.length - ((t : Int)).toNat; omega
  · have hte : t = N.ps.length := by omega
    have htl' : ¬ (t : Int) < (N.ps.length : Int) := by omega
    have JO1 := JO.out
    rw [hte, List.take_length] at JO1
    have JP := Keep.mk JO1
    clear JO1
    refine wp_seq_k fun K10 hK10 => ?_
    refine wp_seq_k fun K11 hK11 => ?_
    refine wp_region_list (WL.out ?_)
    refine WL.val (by kernel_rfl) (.int .i64 (t : Int)) (by go_simp) ?_
    simp only [Act.put, List.setIfInBounds_toArray, List.set_cons_zero, List.set_cons_succ]
    refine WL.val (by kernel_rfl) (.pointer (some ⟨g, 2, none⟩)) (by go_simp) ?_
    simp only [Act.put, List.setIfInBounds_toArray, List.set_cons_zero, List.set_cons_succ]
    refine WL.val (by kernel_rfl) (.slice pa N.ps.length pc) (by go_simp) ?_
    simp only [Act.put, List.setIfInBounds_toArray, List.set_cons_zero, List.set_cons_succ]
    refine WL.val (by kernel_rfl) (.int .i64 (N.ps.length : Int)) (by go_simp) ?_
    simp only [Act.put, List.setIfInBounds_toArray, List.set_cons_zero, List.set_cons_succ]
    refine WL.val (by kernel_rfl) (.bool false) (by go_simp) ?_
    simp only [Act.put, List.setIfInBounds_toArray, List.set_cons_zero, List.set_cons_succ]
    refine WL.nil ?_
    refine hK11 _ _ ?_
    refine wp_cond_false rfl ?_
    refine wp_exit ?_
    refine hK5 _ _ ?_
    refine wp_seq_k fun K12 hK12 => ?_
    refine wp_region_list (WL.out ?_)
    refine WL.val (by kernel_rfl) (u3) (by go_simp) ?_
    simp only [Act.put, List.setIfInBounds_toArray, List.set_cons_zero, List.set_cons_succ]
    refine WL.val (by kernel_rfl) (.pointer (some ⟨g, 3, none⟩)) (by go_simp) ?_
    simp only [Act.put, List.setIfInBounds_toArray, List.set_cons_zero, List.set_cons_succ]
    refine WL.val (by kernel_rfl) (vo) (by go_simp) ?_
    simp only [Act.put, List.setIfInBounds_toArray, List.set_cons_zero, List.set_cons_succ]
    refine WL.callF (by kernel_rfl) 49 _ _ rfl Try.in49 #[u3, vo] (by simp [Act.eval]) ?_
    refine (rput_anyE u3 _ vo N.ops wr JP.out.own (HN1.out.below JP.out.bel).ops HN.out.ok (fun hne k hk e => by have h1 := HN1.out.bo hne k hk; have h2 := JP.out.new k e; omega) Hc.out (by have h1 := headL_len N; have h2 := HN.out.lp; have h3 := hB_flat N.ps; have h4 := form_small N.ops Hc.out; rw [List.length_append]; omega)).mono ?_
    rintro e wz ⟨vz, rfl, h1, h2, h3⟩
    refine ⟨_, rfl, ?_⟩
    have JO2 := Keep.mk (JP.out.step h1 h2 h3)
    clear h1 h2 h3
    simp only [Act.put, List.setIfInBounds_toArray, List.set_cons_zero, List.set_cons_succ]
    refine WL.val (by kernel_rfl) (vz) (by go_simp) ?_
    simp only [Act.put, List.setIfInBounds_toArray, List.set_cons_zero, List.set_cons_succ]
    refine WL.nil ?_
    refine hK12 _ _ ?_
    refine wp_ret ?_
    go_ret
    exact ⟨vz, rfl, JO2.out.own, fun k hk => Nat.le_trans B1x.out (JO2.out.new k hk), B1.out.trans (JO2.out.bel.mono B1x.out)⟩
set_option maxRecDepth 8000 in
set_option maxHeartbeats 1000000 in
theorem rsize_any (N : NodeV) (vp vo : Value) (w : World) (hN : NdAt w N vp vo) : Calls Try.prog 15 #[.agg (ndA N.au N.ck vp vo)] w fun e w' => e = .returned (.int .i64 (sizeN N)) ∧ Below w.heap.size w w' := by
  obtain ⟨pa, pc, rfl⟩ := hN.ps.form
  have HN := Keep.mk hN
  clear hN
  go_enter Try.func15, Try.ntmps15
  refine wp_seq_k fun K1 hK1 => ?_
  refine wp_region_list (WL.out ?_)
  refine WL.box (by kernel_rfl) 27 (.tmp 0) rfl _ rfl ?_
  have HX1 := Keep.mk (Blk.new w 27 (ndA N.au N.ck (.slice pa N.ps.length pc) vo))
  have B1 := Keep.mk (below_new w (.cells (ndA N.au N.ck (.slice pa N.ps.length pc) vo) 27))
  generalize w.alloc (.cells (ndA N.au N.ck (.slice pa N.ps.length pc) vo) 27) = w1 at *
  have HN1 := Keep.mk (HN.out.below B1.out)
  have Hs1 : Keep (w.heap.size < w1.heap.size) := ⟨HX1.out.lt⟩
  have B1x : Keep (w.heap.size ≤ w1.heap.size) := ⟨B1.out.size⟩
  generalize hgg : w.heap.size = g at *
  simp only [Act.put, List.setIfInBounds_toArray, List.set_cons_zero, List.set_cons_succ]
  refine WL.val (by kernel_rfl) (.int .i64 0) (by go_simp) ?_
  simp only [Act.put, List.setIfInBounds_toArray, List.set_cons_zero, List.set_cons_succ]
  refine WL.nil ?_
  refine hK1 _ _ ?_
  refine wp_seq_k fun K2 hK2 => ?_
  refine wp_seq_k fun K3 hK3 => ?_
  refine wp_region_list (WL.out ?_)
  refine WL.row (by kernel_rfl) 27 (.tmp 1) rfl g rfl 27 (ndA N.au N.ck (.slice pa N.ps.length pc) vo) _ HX1.out Try.underlying27 rfl (Try.size27B _ _ _ _) ?_
  simp only [Act.put, List.setIfInBounds_toArray, List.set_cons_zero, List.set_cons_succ]
  refine WL.callF (by kernel_rfl) 13 _ _ rfl Try.in13 #[.agg (ndA N.au N.ck (.slice pa N.ps.length pc) vo)] (by simp [Act.eval]) ?_
  refine (rcheck_node N _ vo w1 HN1.out).mono ?_
  rintro e w2 ⟨rfl, hb2⟩
  refine ⟨_, rfl, ?_⟩
  have B2 := Keep.mk hb2
  have HX2 := Keep.mk (HX1.out.below hb2 HX1.out.lt)
  have HN2 := Keep.mk (HN1.out.below hb2)
  clear hb2
  generalize hZ : chkN N = Z at *
  simp only [Act.put, List.setIfInBounds_toArray, List.set_cons_zero, List.set_cons_succ]
  by_cases h1_2 : Z = 0
  · skip
    refine WL.val (by kernel_rfl) (.bool false) (by go_simp) ?_
    simp only [Act.put, List.setIfInBounds_toArray, List.set_cons_zero, List.set_cons_succ]
    refine WL.nil ?_
    refine hK3 _ _ ?_
    refine wp_cond_false rfl ?_
    refine wp_skip ?_
    refine hK2 _ _ ?_
    refine wp_seq_k fun K4 hK4 => ?_
    refine wp_region_list (WL.out ?_)
    refine WL.row (by kernel_rfl) 27 (.tmp 1) rfl g rfl 27 (ndA N.au N.ck (.slice pa N.ps.length pc) vo) _ HX2.out Try.underlying27 rfl (Try.size27B _ _ _ _) ?_
    simp only [Act.put, List.setIfInBounds_toArray, List.set_cons_zero, List.set_cons_succ]
    refine WL.callF (by kernel_rfl) 28 _ _ rfl Try.in28 #[.agg (ndA N.au N.ck (.slice pa N.ps.length pc) vo)] (by simp [Act.eval]) ?_
    refine (block_any N _ vo w2 HN2.out (by rw [hZ]; exact h1_2)).mono ?_
    rintro e w3 ⟨v3, rfl, hO, hnw, hb3⟩
    refine ⟨_, rfl, ?_⟩
    have HO := Keep.mk hO
    have B3 := Keep.mk hb3
    obtain ⟨va3, vc3, rfl⟩ := row_form hO.row
    clear hO hnw hb3
    simp only [Act.put, List.setIfInBounds_toArray, List.set_cons_zero, List.set_cons_succ]
    refine WL.val (by kernel_rfl) (.int .i64 ((blkL N).length : Int)) (by go_simp) ?_
    simp only [Act.put, List.setIfInBounds_toArray, List.set_cons_zero, List.set_cons_succ]
    refine WL.val (by kernel_rfl) (.int .i64 ((blkL N).length : Int)) (by go_simp) ?_
    simp only [Act.put, List.setIfInBounds_toArray, List.set_cons_zero, List.set_cons_succ]
    refine WL.nil ?_
    refine hK4 _ _ ?_
    refine wp_ret ?_
    go_ret
    exact ⟨by unfold sizeN; rw [if_pos (by rw [hZ]; exact h1_2)]; rfl, B1.out.trans ((B2.out.trans (B3.out.mono B2.out.size)).mono B1x.out)⟩
  · skip
    refine WL.val (by kernel_rfl) (.bool true) (by go_simp) ?_
    simp only [Act.put, List.setIfInBounds_toArray, List.set_cons_zero, List.set_cons_succ]
    refine WL.nil ?_
    refine hK3 _ _ ?_
    refine wp_cond_true rfl ?_
    refine wp_seq_k fun K5 hK5 => ?_
    refine wp_region_list (WL.out ?_)
    refine WL.val (by kernel_rfl) (.int .i64 0) (by go_simp) ?_
    simp only [Act.put, List.setIfInBounds_toArray, List.set_cons_zero, List.set_cons_succ]
    refine WL.nil ?_
    refine hK5 _ _ ?_
    refine wp_ret ?_
    go_ret
    exact ⟨by unfold sizeN; rw [if_neg (by rw [hZ]; exact h1_2)]; rfl, B1.out.trans (B2.out.mono B1x.out)⟩
def REncP (N : NodeV) (w : World) (e : Ending) (w' : World) : Prop :=
  Below w.heap.size w w' ∧ ((chkN N ≠ 0 ∧ e = .returned (.tuple #[.slice none 0 0, .int .i64 (chkN N)])) ∨ (chkN N = 0 ∧ 1048576 < (blkL N).length ∧ e = .returned (.tuple #[.slice none 0 0, .int .i64 4])) ∨
    (chkN N = 0 ∧ (blkL N).length ≤ 1048576 ∧ ∃ v, e = .returned (.tuple #[v, .int .i64 0]) ∧ Own w' v (blkL N)))
set_option maxRecDepth 8000 in
set_option maxHeartbeats 1000000 in
theorem rencode_any (N : NodeV) (vp vo : Value) (w : World) (hN : NdAt w N vp vo) : Calls Try.prog 11 #[.agg (ndA N.au N.ck vp vo)] w (REncP N w) := by
  obtain ⟨pa, pc, rfl⟩ := hN.ps.form
  have HN := Keep.mk hN
  unfold REncP
  clear hN
  go_enter Try.func11, Try.ntmps11
  refine wp_seq_k fun K1 hK1 => ?_
  refine wp_region_list (WL.out ?_)
  refine WL.box (by kernel_rfl) 27 (.tmp 0) rfl _ rfl ?_
  have HX1 := Keep.mk (Blk.new w 27 (ndA N.au N.ck (.slice pa N.ps.length pc) vo))
  have B1 := Keep.mk (below_new w (.cells (ndA N.au N.ck (.slice pa N.ps.length pc) vo) 27))
  generalize w.alloc (.cells (ndA N.au N.ck (.slice pa N.ps.length pc) vo) 27) = w1 at *
  have HN1 := Keep.mk (HN.out.below B1.out)
  have Hs1 : Keep (w.heap.size < w1.heap.size) := ⟨HX1.out.lt⟩
  have B1x : Keep (w.heap.size ≤ w1.heap.size) := ⟨B1.out.size⟩
  generalize hgg : w.heap.size = g at *
  simp only [Act.put, List.setIfInBounds_toArray, List.set_cons_zero, List.set_cons_succ]
  refine WL.val (by kernel_rfl) (.slice none 0 0) (by go_simp) ?_
  simp only [Act.put, List.setIfInBounds_toArray, List.set_cons_zero, List.set_cons_succ]
  refine WL.val (by kernel_rfl) (.int .i64 0) (by go_simp) ?_
  simp only [Act.put, List.setIfInBounds_toArray, List.set_cons_zero, List.set_cons_succ]
  refine WL.nil ?_
  refine hK1 _ _ ?_
  refine wp_seq_k fun K2 hK2 => ?_
  refine wp_seq_k fun K3 hK3 => ?_
  refine wp_region_list (WL.out ?_)
  refine WL.row (by kernel_rfl) 27 (.tmp 1) rfl g rfl 27 (ndA N.au N.ck (.slice pa N.ps.length pc) vo) _ HX1.out Try.underlying27 rfl (Try.size27B _ _ _ _) ?_
  simp only [Act.put, List.setIfInBounds_toArray, List.set_cons_zero, List.set_cons_succ]
  refine WL.callF (by kernel_rfl) 13 _ _ rfl Try.in13 #[.agg (ndA N.au N.ck (.slice pa N.ps.length pc) vo)] (by simp [Act.eval]) ?_
  refine (rcheck_node N _ vo w1 HN1.out).mono ?_
  rintro e w2 ⟨rfl, hb2⟩
  refine ⟨_, rfl, ?_⟩
  have B2 := Keep.mk hb2
  have HX2 := Keep.mk (HX1.out.below hb2 HX1.out.lt)
  have HN2 := Keep.mk (HN1.out.below hb2)
  clear hb2
  generalize hZ : chkN N = Z at *
  simp only [Act.put, List.setIfInBounds_toArray, List.set_cons_zero, List.set_cons_succ]
  refine WL.val (by kernel_rfl) (.int .i64 Z) (by go_simp) ?_
  simp only [Act.put, List.setIfInBounds_toArray, List.set_cons_zero, List.set_cons_succ]
  refine WL.nil ?_
  refine hK3 _ _ ?_
  refine wp_seq_k fun K4 hK4 => ?_
  refine wp_region_list (WL.out ?_)
  refine WL.val (by kernel_rfl) (.int .i64 Z) (by go_simp) ?_
  simp only [Act.put, List.setIfInBounds_toArray, List.set_cons_zero, List.set_cons_succ]
  by_cases h2_1 : Z = 0
  · skip
    refine WL.val (by kernel_rfl) (.bool false) (by go_simp) ?_
    simp only [Act.put, List.setIfInBounds_toArray, List.set_cons_zero, List.set_cons_succ]
    refine WL.nil ?_
    refine hK4 _ _ ?_
    refine wp_cond_false rfl ?_
    refine wp_skip ?_
    refine hK2 _ _ ?_
    refine wp_seq_k fun K5 hK5 => ?_
    refine wp_region_list (WL.out ?_)
    refine WL.row (by kernel_rfl) 27 (.tmp 1) rfl g rfl 27 (ndA N.au N.ck (.slice pa N.ps.length pc) vo) _ HX2.out Try.underlying27 rfl (Try.size27B _ _ _ _) ?_
    simp only [Act.put, List.setIfInBounds_toArray, List.set_cons_zero, List.set_cons_succ]
    refine WL.callF (by kernel_rfl) 28 _ _ rfl Try.in28 #[.agg (ndA N.au N.ck (.slice pa N.ps.length pc) vo)] (by simp [Act.eval]) ?_
    refine (block_any N _ vo w2 HN2.out (by rw [hZ]; exact h2_1)).mono ?_
    rintro e w3 ⟨v3, rfl, hO, hnw, hb3⟩
    refine ⟨_, rfl, ?_⟩
    have HO := Keep.mk hO
    have B3 := Keep.mk hb3
    have Hnw := Keep.mk hnw
    obtain ⟨va3, vc3, rfl⟩ := row_form hO.row
    clear hO hnw hb3
    simp only [Act.put, List.setIfInBounds_toArray, List.set_cons_zero, List.set_cons_succ]
    refine WL.val (by kernel_rfl) (.slice va3 (blkL N).length vc3) (by go_simp) ?_
    simp only [Act.put, List.setIfInBounds_toArray, List.set_cons_zero, List.set_cons_succ]
    refine WL.nil ?_
    refine hK5 _ _ ?_
    refine wp_seq_k fun K6 hK6 => ?_
    refine wp_seq_k fun K7 hK7 => ?_
    refine wp_region_list (WL.out ?_)
    refine WL.val (by kernel_rfl) (.slice va3 (blkL N).length vc3) (by go_simp) ?_
    simp only [Act.put, List.setIfInBounds_toArray, List.set_cons_zero, List.set_cons_succ]
    refine WL.val (by kernel_rfl) (.int .i64 ((blkL N).length : Int)) (by go_simp) ?_
    simp only [Act.put, List.setIfInBounds_toArray, List.set_cons_zero, List.set_cons_succ]
    by_cases h5_2 : 1048576 < (blkL N).length
    · have h5_2i : 1048576 < ((blkL N).length : Int) := by omega
      refine WL.val (by kernel_rfl) (.bool true) (by go_simp) ?_
      simp only [Act.put, List.setIfInBounds_toArray, List.set_cons_zero, List.set_cons_succ]
      refine WL.nil ?_
      refine hK7 _ _ ?_
      refine wp_cond_true rfl ?_
      refine wp_seq_k fun K8 hK8 => ?_
      refine wp_region_list (WL.out ?_)
      refine WL.val (by kernel_rfl) (.slice none 0 0) (by go_simp) ?_
      simp only [Act.put, List.setIfInBounds_toArray, List.set_cons_zero, List.set_cons_succ]
      refine WL.val (by kernel_rfl) (.int .i64 4) (by go_simp) ?_
      simp only [Act.put, List.setIfInBounds_toArray, List.set_cons_zero, List.set_cons_succ]
      refine WL.nil ?_
      refine hK8 _ _ ?_
      refine wp_ret ?_
      go_ret2
      exact ⟨B1.out.trans ((B2.out.trans (B3.out.mono B2.out.size)).mono B1x.out), .inr (.inl ⟨h2_1, h5_2, rfl⟩)⟩
    · have h5_2i : ¬ 1048576 < ((blkL N).length : Int) := by omega
      refine WL.val (by kernel_rfl) (.bool false) (by go_simp) ?_
      simp only [Act.put, List.setIfInBounds_toArray, List.set_cons_zero, List.set_cons_succ]
      refine WL.nil ?_
      refine hK7 _ _ ?_
      refine wp_cond_false rfl ?_
      refine wp_skip ?_
      refine hK6 _ _ ?_
      refine wp_seq_k fun K9 hK9 => ?_
      refine wp_region_list (WL.out ?_)
      refine WL.val (by kernel_rfl) (.slice va3 (blkL N).length vc3) (by go_simp) ?_
      simp only [Act.put, List.setIfInBounds_toArray, List.set_cons_zero, List.set_cons_succ]
      refine WL.val (by kernel_rfl) (.slice va3 (blkL N).length vc3) (by go_simp) ?_
      simp only [Act.put, List.setIfInBounds_toArray, List.set_cons_zero, List.set_cons_succ]
      refine WL.val (by kernel_rfl) (.int .i64 0) (by go_simp) ?_
      simp only [Act.put, List.setIfInBounds_toArray, List.set_cons_zero, List.set_cons_succ]
      refine WL.nil ?_
      refine hK9 _ _ ?_
      refine wp_ret ?_
      go_ret2
      exact ⟨B1.out.trans ((B2.out.trans (B3.out.mono B2.out.size)).mono B1x.out), .inr (.inr ⟨h2_1, by omega, _, rfl, HO.out⟩)⟩
  · skip
    refine WL.val (by kernel_rfl) (.bool true) (by go_simp) ?_
    simp only [Act.put, List.setIfInBounds_toArray, List.set_cons_zero, List.set_cons_succ]
    refine WL.nil ?_
    refine hK4 _ _ ?_
    refine wp_cond_true rfl ?_
    refine wp_seq_k fun K10 hK10 => ?_
    refine wp_region_list (WL.out ?_)
    refine WL.val (by kernel_rfl) (.int .i64 Z) (by go_simp) ?_
    simp only [Act.put, List.setIfInBounds_toArray, List.set_cons_zero, List.set_cons_succ]
    refine WL.val (by kernel_rfl) (.slice none 0 0) (by go_simp) ?_
    simp only [Act.put, List.setIfInBounds_toArray, List.set_cons_zero, List.set_cons_succ]
    refine WL.val (by kernel_rfl) (.int .i64 Z) (by go_simp) ?_
    simp only [Act.put, List.setIfInBounds_toArray, List.set_cons_zero, List.set_cons_succ]
    refine WL.nil ?_
    refine hK10 _ _ ?_
    refine wp_ret ?_
    go_ret2
    exact ⟨B1.out.trans (B2.out.mono B1x.out), .inl ⟨h2_1, rfl⟩⟩
end Go.Proofs.Ytgpgnldcdimmbaa
