import Derived.Test.YtkjjlfpghhefcabB08
import Derived.Test.YtkjjlfpghhefcabB06
import Derived.Test.YtkjjlfpghhefcabB07
import Derived.Deep.RegionHeld3
namespace Go.Proofs.Ytkjjlfpghhefcab
open Go.RowKit
set_option linter.unusedSimpArgs false

theorem WL.app {ops : Array Oper} {rest : List Oper} {o : Oper} {a : Act} {w : World} {Q : Exit → Act → World → Prop} (hw : Region.wanted o (yielded ops a.tmps) = true) (s x : Operand)
    (ho : o.op = .call { callee := .builtin .append, args := #[s, x], argTypes := #[22, 22] }) (v vx : Value) (l m : List Int)
    (hs : a.eval s = v) (hx : a.eval x = vx) (hown : Own w v l) (hrow : RowAt w vx m) (hb : l.length + m.length ≤ 200000000000000)
    (h : ∀ v' w', AppPost w v (l ++ m) v' w' → WL Try.prog ops Q rest (a.put o.dst v') w') : WL Try.prog ops Q (o :: rest) a w :=
  ⟨wpList_wanted hw fun K hK => by
    obtain ⟨v', w', hr, h2⟩ := run_app_row w o.type v vx l m hown hrow hb
    unfold Oper.wp execOp
    simp only [ho, resolve, invoke, builtin, Sem.run_bind, Sem.run_pure, Result.andThen_ok, List.map_toArray, List.map_cons, List.map_nil, hs, hx, hr]
    exact hK _ _ (h v' w' h2).out⟩
/-- A string's bytes as a new slice. -/
theorem WL.bytes {ops : Array Oper} {rest : List Oper} {o : Oper} {a : Act} {w : World} {Q : Exit → Act → World → Prop} (hw : Region.wanted o (yielded ops a.tmps) = true) (x : Operand) (ho : o.op = .convert 9 22 x) (s : ByteArray) (hx : a.eval x = .string s) (hb : s.size ≤ 140737488355328)
    (h : ∀ v w', OwnT w' v (lst s) → v.ownBlock = some w.heap.size → Below w.heap.size w w' → WL Try.prog ops Q rest (a.put o.dst v) w') : WL Try.prog ops Q (o :: rest) a w := by
  obtain ⟨v, w', h1, h2, h3, h4⟩ := conv_bytes w s hb
  refine WL.valW hw v w' ?_ (h v w' h2 h3 h4)
  unfold execOp
  simp only [ho, hx, Sem.run_bind, h1, Result.andThen_ok]
  rfl
/-- Bytes laid behind others, so far. -/
structure LS (w0 : World) (v0 : Value) (L : List Int) (u : Value) (w : World) : Prop where
  own : Own w u L
  mv : Moved w0 v0 u
  gr : Grown w0 w fun k => v0.ownBlock = some k
theorem LS.step {w0 : World} {v0 : Value} {L L' : List Int} {u u' : Value} {w w' : World} (h : LS w0 v0 L u w) (h1 : Own w' u' L') (h2 : Moved w u u') (h3 : Grown w w' fun k => u.ownBlock = some k) : LS w0 v0 L' u' w' :=
  ⟨h1, h.mv.trans h.gr.size h2, h.gr.next h3 fun _ hk ho => h.mv.old hk ho⟩
theorem LS.below {w0 : World} {v0 : Value} {L : List Int} {u : Value} {w w' : World} (h : LS w0 v0 L u w) (hb : Below w.heap.size w w') : LS w0 v0 L u w' :=
  ⟨h.own.grown (Grown.below (S := fun _ => False) hb) (fun _ _ h => h), h.mv, h.gr.next (Grown.below hb (S := fun _ => False)) (fun _ _ h => h.elim)⟩
theorem own_keeps {w w' : World} {u : Value} {L : List Int} (h : Own w u L) {g : Nat} {T : TypeId} {cs : Array Value} (hb : Blk w g T cs) (hT : T ≠ 5) (h3 : Grown w w' fun k => u.ownBlock = some k) : Blk w' g T cs := h3.blk hb fun e => h.ne hb hT e
theorem bsB (c : Int) (w : World) : (Instr.buildSlice 22 1 #[(0, .int .u8 c)]).run Try.prog w = .ok (.slice (some ⟨w.heap.size, 0, none⟩) 1 1) (w.alloc (.cells #[.int .u8 c] 5)) := by kernel_rfl
def tl (x : OpV) : List Int := (if txt x.kind = true then bform (lst x.text) else []) ++ ((if x.kind = 6 then numL (zig x.n) else []) ++ (if hat x.kind = true then numL x.op.toNat ++ (if x.op = 0 then [] else hl 32 (hof x.node)) else []))
theorem oneF_eq (x : OpV) (h : hasI x.kind ≠ []) : oneF x = [x.kind] ++ (bform (lst x.key) ++ tl x) := by
  have hk := hasI_mem h
  simp only [List.mem_cons, List.not_mem_nil, or_false] at hk
  rcases hk with e | e | e | e | e | e | e | e | e <;> simp [oneF, tl, e, hasI, putF, txt, hat]
set_option maxRecDepth 8000 in
set_option maxHeartbeats 4000000 in
theorem rput_any (v : Value) (L0 : List Int) (vl : Value) (l : List OpV) (w : World) (h : Own w v L0) (hl : OpsAt w vl l) (hok : ∀ x ∈ l, OpOk x)
    (hsep : ∀ k, vl.ownBlock = some k → v.ownBlock ≠ some k) (hC : (chk l).1 = 0) (hbb : L0.length + (formL l).length ≤ 200000000000000) :
    Calls Try.prog 28 #[v, vl] w (LayPost v (L0 ++ formL l) w) := by
  obtain ⟨va, vc, rfl⟩ := hl.form
  have HO := Keep.mk h
  have HL := Keep.mk hl
  have Hok := Keep.mk hok
  have Hsep := Keep.mk hsep
  have Hbb := Keep.mk hbb
  have Hok2 := Keep.mk (chk_ok hC)
  have Hlb : Keep (l.length ≤ 4398046511104) := ⟨by have := Hok2.out.1; omega⟩
  have hb' : (l.length : Int) ≤ 9223372036854775807 := by have := Hlb.out; omega
  have hwl : IntKind.u64.wrap (l.length : Int) = (l.length : Int) := by rw [IntKind.wrap_u64]; have := Hlb.out; omega
  clear h hl hok hsep hbb hC
  go_enter Try.func28, Try.ntmps28
  refine wp_seq_k fun K1 hK1 => ?_
  refine wp_region_list (WL.out ?_)
  refine WL.val (by kernel_rfl) (.slice none 0 0) (by go_simp) ?_
  simp only [Act.put, List.setIfInBounds_toArray, List.set_cons_zero, List.set_cons_succ]
  refine WL.nil ?_
  refine hK1 _ _ ?_
  refine wp_seq_k fun K2 hK2 => ?_
  refine wp_region_list (WL.out ?_)
  refine WL.val (by kernel_rfl) (v) (by go_simp) ?_
  simp only [Act.put, List.setIfInBounds_toArray, List.set_cons_zero, List.set_cons_succ]
  refine WL.val (by kernel_rfl) (.slice va l.length vc) (by go_simp) ?_
  simp only [Act.put, List.setIfInBounds_toArray, List.set_cons_zero, List.set_cons_succ]
  refine WL.val (by kernel_rfl) (.int .i64 (l.length : Int)) (by go_simp) ?_
  simp only [Act.put, List.setIfInBounds_toArray, List.set_cons_zero, List.set_cons_succ]
  refine WL.val (by kernel_rfl) (.int .u64 (l.length : Int)) (by go_simp) ?_
  simp only [Act.put, List.setIfInBounds_toArray, List.set_cons_zero, List.set_cons_succ]
  refine WL.callF (by kernel_rfl) 41 _ _ rfl Try.in41 #[v, .int .u64 (l.length : Int)] (by simp [Act.eval]) ?_
  refine (rnum_any v L0 l.length w HO.out (by have := Hlb.out; omega) (by have := Hbb.out; unfold formL at this; rw [List.length_append] at this; omega)).mono ?_
  rintro e w1 hp
  obtain ⟨v1, rfl, hq1, hq2, hq3⟩ := hp
  refine ⟨_, rfl, ?_⟩
  have HS1 : Keep (LS w v (L0 ++ numL l.length) v1 w1) := ⟨⟨hq1, hq2, hq3⟩⟩
  clear hq1 hq2 hq3
  simp only [Act.put, List.setIfInBounds_toArray, List.set_cons_zero, List.set_cons_succ]
  refine WL.val (by kernel_rfl) (v1) (by go_simp) ?_
  simp only [Act.put, List.setIfInBounds_toArray, List.set_cons_zero, List.set_cons_succ]
  refine WL.nil ?_
  refine hK2 _ _ ?_
  refine wp_seq_k fun K3 hK3 => ?_
  refine wp_seq_k fun K4 hK4 => ?_
  refine wp_region_list (WL.out ?_)
  refine WL.val (by kernel_rfl) (.int .i64 0) (by go_simp) ?_
  simp only [Act.put, List.setIfInBounds_toArray, List.set_cons_zero, List.set_cons_succ]
  refine WL.nil ?_
  refine hK4 _ _ ?_
  refine wp_block ?_
  refine wp_loop (fun a wr => ∃ (t : Nat) (u0 u6 u7 u8 u14 u15 u16 u17 u18 u19 u20 u21 u22 u23 u24 u25 u26 u27 u28 u29 u30 u31 u32 u33 u34 u35 u36 u37 u38 u39 u40 u41 u42 u43 u44 u45 u46 u47 u48 u49 u50 u51 u52 u53 u54 u55 u56 u57 u58 u59 u60 u61 u62 u63 u64 u65 u66 u67 u68 u69 u70 : Value), a = { tmps := #[u0, .slice va l.length vc, undef, undef, .slice none 0 0, .int .i64 (t : Int), u6, u7, u8, v, .slice va l.length vc, .int .i64 (l.length : Int), .int .u64 (l.length : Int), v1, u14, u15, u16, u17, u18, u19, u20, u21, u22, u23, u24, u25, u26, u27, u28, u29, u30, u31, u32, u33, u34, u35, u36, u37, u38, u39, u40, u41, u42, u43, u44, u45, u46, u47, u48, u49, u50, u51, u52, u53, u54, u55, u56, u57, u58, u59, u60, u61, u62, u63, u64, u65, u66, u67, u68, u69, u70, undef], defers := [] } ∧ t ≤ l.length ∧ LS w v (L0 ++ numL l.length ++ (l.take t).flatMap oneF) u0 wr) (fun a _ => l.length - (intOf (a.tmps.getD 5 undef)).toNat) ⟨0, v1, undef, undef, undef, undef, undef, undef, undef, undef, undef, undef, undef, undef, undef, undef, undef, undef, undef, undef, undef, undef, undef, undef, undef, undef, undef, undef, undef, undef, undef, undef, undef, undef, undef, undef, undef, undef, undef, undef, undef, undef, undef, undef, undef, undef, undef, undef, undef, undef, undef, undef, undef, undef, undef, undef, undef, undef, undef, undef, undef, undef, rfl, by omega, by rw [List.take_zero, List.flatMap_nil, List.append_nil]; exact HS1.out⟩ ?_
  rintro a wr ⟨t, u0, u6, u7, u8, u14, u15, u16, u17, u18, u19, u20, u21, u22, u23, u24, u25, u26, u27, u28, u29, u30, u31, u32, u33, u34, u35, u36, u37, u38, u39, u40, u41, u42, u43, u44, u45, u46, u47, u48, u49, u50, u51, u52, u53, u54, u55, u56, u57, u58, u59, u60, u61, u62, u63, u64, u65, u66, u67, u68, u69, u70, rfl, ht, hS⟩
  by_cases htl : t < l.length
  · have htl' : (t : Int) < (l.length : Int) := by omega
    have hLr := HL.out.grown hS.gr (fun b hb _ => Hsep.out b hb)
    obtain ⟨gL, ofL, hva, hr⟩ := hLr.at htl
    have hgx : l[t]? = some (l.getD t zeroOp) := by simp [List.getD_eq_getElem?_getD, htl]
    have hwx := wrongV_ok (Hok2.out.2 t _ hgx)
    have hmem : l.getD t zeroOp ∈ l := List.mem_of_getElem? hgx
    have Hx := Keep.mk (Hok.out _ hmem)
    have hnx := fm_next oneF l t htl zeroOp
    have hln := fm_len oneF l (t + 1)
    generalize l.getD t zeroOp = x at *
    have hkr := hasI_rng hwx.1
    have hwk : IntKind.u8.wrap x.kind = x.kind := by rw [IntKind.wrap_u8]; omega
    have HHat : Keep (hat x.kind = true → 0 ≤ x.op ∧ x.op ≤ 1024) := ⟨fun h => mayAt_op (by rw [List.length_take]; have := Hok2.out.1; omega) (hwx.2.2.2.2 ((hat_eq x hwx.1).mpr h))⟩
    have hone := oneF_eq x hwx.1
    have hwr1 : IntKind.i64.wrap ((t : Int) + 1) = (t : Int) + 1 := by rw [IntKind.wrap_i64]; have := Hlb.out; omega
    obtain ⟨L1, hL1⟩ : ∃ L1, Keep (L1 = L0 ++ numL l.length ++ (l.take t).flatMap oneF) := ⟨_, ⟨rfl⟩⟩
    rw [← hL1.out] at hS
    have HFull : Keep (L0 ++ numL l.length ++ (l.take (t + 1)).flatMap oneF = L1 ++ [x.kind] ++ bform (lst x.key) ++ tl x) := ⟨by rw [hnx, hone, hL1.out]; simp⟩
    have Hbd : Keep ((L1 ++ [x.kind] ++ bform (lst x.key) ++ tl x).length ≤ 200000000000000) := ⟨by
      rw [← HFull.out, List.length_append, List.length_append]
      have := Hbb.out
      unfold formL at this
      rw [List.length_append] at this
      omega⟩
    have HS := Keep.mk hS
    clear hS hLr hgx hwx hmem hnx hln hkr hone
    refine wp_seq_k fun K5 hK5 => ?_
    refine wp_seq_k fun K6 hK6 => ?_
    refine wp_region_list (WL.out ?_)
    refine WL.val (by kernel_rfl) (.int .i64 (t : Int)) (by go_simp) ?_
    simp only [Act.put, List.setIfInBounds_toArray, List.set_cons_zero, List.set_cons_succ]
    refine WL.val (by kernel_rfl) (.slice va l.length vc) (by go_simp) ?_
    simp only [Act.put, List.setIfInBounds_toArray, List.set_cons_zero, List.set_cons_succ]
    refine WL.val (by kernel_rfl) (.int .i64 (l.length : Int)) (by go_simp) ?_
    simp only [Act.put, List.setIfInBounds_toArray, List.set_cons_zero, List.set_cons_succ]
    refine WL.val (by kernel_rfl) (.bool true) (by go_simp) ?_
    simp only [Act.put, List.setIfInBounds_toArray, List.set_cons_zero, List.set_cons_succ]
    refine WL.nil ?_
    refine hK6 _ _ ?_
    refine wp_cond_true rfl ?_
    refine wp_skip ?_
    refine hK5 _ _ ?_
    refine wp_seq_k fun K7 hK7 => ?_
    refine wp_block ?_
    refine wp_seq_k fun K8 hK8 => ?_
    refine wp_region_list (WL.out ?_)
    refine WL.val (by kernel_rfl) (.slice va l.length vc) (by go_simp) ?_
    simp only [Act.put, List.setIfInBounds_toArray, List.set_cons_zero, List.set_cons_succ]
    refine WL.val (by kernel_rfl) (.int .i64 (t : Int)) (by go_simp) ?_
    simp only [Act.put, List.setIfInBounds_toArray, List.set_cons_zero, List.set_cons_succ]
    refine WL.val (by kernel_rfl) (.pointer (some ⟨gL, ofL + t * 37, none⟩)) (by go_simp) ?_
    simp only [Act.put, List.setIfInBounds_toArray, List.set_cons_zero, List.set_cons_succ]
    refine WL.mid (by kernel_rfl) 59 (.tmp 22) rfl gL (ofL + t * 37) rfl (opL x) _ hr Try.underlying59 rfl (Try.size59L x) ?_
    rw [rng_load]
    simp only [Act.put, List.setIfInBounds_toArray, List.set_cons_zero, List.set_cons_succ]
    refine WL.new (by kernel_rfl) 59 rfl _ Try.new59 ?_
    simp only [Act.put, List.setIfInBounds_toArray, List.set_cons_zero, List.set_cons_succ]
    refine WL.storeR (by kernel_rfl) 59 (.tmp 6) (.tmp 23) rfl wr.heap.size (opA x) rfl rfl 59 (opA zeroOp) (Blk.new wr 59 _) (Try.size59B x) (opA_sizes _ _) (opA_one x) ?_
    have X0 := Keep.mk ((Blk.new wr 59 (opA zeroOp)).setRow (opA x))
    have HGr : Keep (Below wr.heap.size wr ((wr.alloc (.cells (opA zeroOp) 59)).setRow wr.heap.size (opA x))) := ⟨below_setRow (below_new wr _) (Nat.le_refl _) _⟩
    generalize (wr.alloc (.cells (opA zeroOp) 59)).setRow wr.heap.size (opA x) = w_0 at *
    obtain ⟨gx, hgx⟩ : ∃ gx, Keep (gx = wr.heap.size) := ⟨_, ⟨rfl⟩⟩
    rw [← hgx.out] at X0 ⊢
    have H0 := Keep.mk (HS.out.below HGr.out)
    have c0_0 := X0.out.c 0 (opA_0 x)
    have c0_1 := X0.out.c 1 (opA_1 x)
    have c0_2 := X0.out.c 2 (opA_2 x)
    have c0_3 := X0.out.c 3 (opA_3 x)
    have c0_36 := X0.out.c 36 (opA_36 x)
    simp only [Act.put]
    refine WL.nil ?_
    refine hK8 _ _ ?_
    refine wp_seq_k fun K9 hK9 => ?_
    refine wp_region_list (WL.out ?_)
    refine WL.val (by kernel_rfl) (u0) (by go_simp) ?_
    simp only [Act.put, List.setIfInBounds_toArray, List.set_cons_zero, List.set_cons_succ]
    refine WL.val (by kernel_rfl) (.pointer (some ⟨gx, 0, none⟩)) (by go_simp) ?_
    simp only [Act.put, List.setIfInBounds_toArray, List.set_cons_zero, List.set_cons_succ]
    refine WL.val (by kernel_rfl) (.int .i64 x.kind) (by go_simp) ?_
    simp only [Act.put, List.setIfInBounds_toArray, List.set_cons_zero, List.set_cons_succ]
    refine WL.val (by kernel_rfl) (.int .u8 x.kind) (by go_simp) ?_
    simp only [Act.put, List.setIfInBounds_toArray, List.set_cons_zero, List.set_cons_succ]
    refine WL.bs (by kernel_rfl) 22 1 _ rfl #[(0, .int .u8 x.kind)] (by simp [Act.eval]) _ _ (bsB x.kind w_0) ?_
    simp only [Act.put, List.setIfInBounds_toArray, List.set_cons_zero, List.set_cons_succ]
    refine WL.app (by kernel_rfl) (.tmp 24) (.tmp 28) rfl u0 (.slice (some ⟨w_0.heap.size, 0, none⟩) 1 1) L1 [x.kind] rfl rfl (H0.out.own.box _) (row_one w_0 x.kind) (by have := Hbd.out; simp only [List.length_append, List.length_cons, List.length_nil] at this ⊢; omega) ?_
    intro u_1 w_1 hap
    obtain ⟨hq1, hq2, hq3⟩ := hap.box
    have H1 := Keep.mk (H0.out.step hq1 hq2 hq3)
    have X1 := Keep.mk (own_keeps H0.out.own X0.out (by decide) hq3)
    clear hq1 hq2 hq3 hap
    clear c0_0 c0_1 c0_2 c0_3 c0_36
    have c1_0 := X1.out.c 0 (opA_0 x)
    have c1_1 := X1.out.c 1 (opA_1 x)
    have c1_2 := X1.out.c 2 (opA_2 x)
    have c1_3 := X1.out.c 3 (opA_3 x)
    have c1_36 := X1.out.c 36 (opA_36 x)
    simp only [Act.put, List.setIfInBounds_toArray, List.set_cons_zero, List.set_cons_succ]
    refine WL.val (by kernel_rfl) (u_1) (by go_simp) ?_
    simp only [Act.put, List.setIfInBounds_toArray, List.set_cons_zero, List.set_cons_succ]
    refine WL.nil ?_
    refine hK9 _ _ ?_
    refine wp_seq_k fun K10 hK10 => ?_
    refine wp_region_list (WL.out ?_)
    refine WL.val (by kernel_rfl) (u_1) (by go_simp) ?_
    simp only [Act.put, List.setIfInBounds_toArray, List.set_cons_zero, List.set_cons_succ]
    refine WL.val (by kernel_rfl) (.pointer (some ⟨gx, 1, none⟩)) (by go_simp) ?_
    simp only [Act.put, List.setIfInBounds_toArray, List.set_cons_zero, List.set_cons_succ]
    refine WL.val (by kernel_rfl) (.string x.key) (by go_simp) ?_
    simp only [Act.put, List.setIfInBounds_toArray, List.set_cons_zero, List.set_cons_succ]
    refine WL.bytes (by kernel_rfl) (.tmp 32) rfl x.key rfl Hx.out.key ?_
    intro vb2 w_2 hb1 hb2 hb3
    have R2 := Keep.mk hb1
    have S2 : Keep (∀ k, vb2.ownBlock = some k → u_1.ownBlock ≠ some k) := ⟨fun k hk ho => by rw [hb2] at hk; injection hk with hk; have := H1.out.own.lt k ho; omega⟩
    have H2 := Keep.mk (H1.out.below hb3)
    have X2 := Keep.mk (X1.out.below hb3 X1.out.lt)
    clear hb1 hb2 hb3
    clear c1_0 c1_1 c1_2 c1_3 c1_36
    have c2_0 := X2.out.c 0 (opA_0 x)
    have c2_1 := X2.out.c 1 (opA_1 x)
    have c2_2 := X2.out.c 2 (opA_2 x)
    have c2_3 := X2.out.c 3 (opA_3 x)
    have c2_36 := X2.out.c 36 (opA_36 x)
    simp only [Act.put, List.setIfInBounds_toArray, List.set_cons_zero, List.set_cons_succ]
    refine WL.callF (by kernel_rfl) 42 _ _ rfl Try.in42 #[u_1, vb2] (by simp [Act.eval]) ?_
    refine (rbytes_any u_1 vb2 (L1 ++ [x.kind]) (lst x.key) w_2 H2.out.own R2.out.row S2.out (by have := Hbd.out; simp only [List.length_append, List.length_cons, List.length_nil] at this ⊢; omega)).mono ?_
    rintro e w_3 hp
    obtain ⟨u_3, rfl, hq1, hq2, hq3⟩ := hp
    refine ⟨_, rfl, ?_⟩
    have H3 := Keep.mk (H2.out.step hq1 hq2 hq3)
    have X3 := Keep.mk (own_keeps H2.out.own X2.out (by decide) hq3)
    clear hq1 hq2 hq3
    clear c2_0 c2_1 c2_2 c2_3 c2_36
    have c3_0 := X3.out.c 0 (opA_0 x)
    have c3_1 := X3.out.c 1 (opA_1 x)
    have c3_2 := X3.out.c 2 (opA_2 x)
    have c3_3 := X3.out.c 3 (opA_3 x)
    have c3_36 := X3.out.c 36 (opA_36 x)
    simp only [Act.put, List.setIfInBounds_toArray, List.set_cons_zero, List.set_cons_succ]
    refine WL.val (by kernel_rfl) (u_3) (by go_simp) ?_
    simp only [Act.put, List.setIfInBounds_toArray, List.set_cons_zero, List.set_cons_succ]
    refine WL.nil ?_
    refine hK10 _ _ ?_
    refine wp_seq_k fun K11 hK11 => ?_
    refine wp_region_list (WL.out ?_)
    refine WL.val (by kernel_rfl) (.pointer (some ⟨gx, 0, none⟩)) (by go_simp) ?_
    simp only [Act.put, List.setIfInBounds_toArray, List.set_cons_zero, List.set_cons_succ]
    refine WL.val (by kernel_rfl) (.int .i64 x.kind) (by go_simp) ?_
    simp only [Act.put, List.setIfInBounds_toArray, List.set_cons_zero, List.set_cons_succ]
    refine WL.callF (by kernel_rfl) 43 _ _ rfl Try.in43 #[.int .i64 x.kind] (by simp [Act.eval]) ?_
    refine (hasText_any x.kind w_3).mono ?_
    rintro e w_y ⟨rfl, hwy⟩
    rw [hwy]
    clear hwy w_y
    refine ⟨_, rfl, ?_⟩
    simp only [Act.put, List.setIfInBounds_toArray, List.set_cons_zero, List.set_cons_succ]
    refine WL.val (by kernel_rfl) (.bool (txt x.kind)) (by go_simp) ?_
    simp only [Act.put, List.setIfInBounds_toArray, List.set_cons_zero, List.set_cons_succ]
    refine WL.nil ?_
    refine hK11 _ _ ?_
    refine wp_seq_k fun K12 hK12 => ?_
    refine wp_seq_k fun K13 hK13 => ?_
    refine wp_region_list (WL.out ?_)
    rcases Bool.eq_false_or_eq_true (txt x.kind) with h9_0 | h9_0
    · have q38 := h9_0
      rw [h9_0]
      refine WL.val (by kernel_rfl) (.bool true) (by go_simp) ?_
      simp only [Act.put, List.setIfInBounds_toArray, List.set_cons_zero, List.set_cons_succ]
      refine WL.nil ?_
      refine hK13 _ _ ?_
      refine wp_cond_true rfl ?_
      refine wp_region_list (WL.out ?_)
      refine WL.val (by kernel_rfl) (u_3) (by go_simp) ?_
      simp only [Act.put, List.setIfInBounds_toArray, List.set_cons_zero, List.set_cons_succ]
      refine WL.val (by kernel_rfl) (.pointer (some ⟨gx, 2, none⟩)) (by go_simp) ?_
      simp only [Act.put, List.setIfInBounds_toArray, List.set_cons_zero, List.set_cons_succ]
      refine WL.val (by kernel_rfl) (.string x.text) (by go_simp) ?_
      simp only [Act.put, List.setIfInBounds_toArray, List.set_cons_zero, List.set_cons_succ]
      refine WL.bytes (by kernel_rfl) (.tmp 41) rfl x.text rfl Hx.out.text ?_
      intro vb4 w_4 hb1 hb2 hb3
      have R4 := Keep.mk hb1
      have S4 : Keep (∀ k, vb4.ownBlock = some k → u_3.ownBlock ≠ some k) := ⟨fun k hk ho => by rw [hb2] at hk; injection hk with hk; have := H3.out.own.lt k ho; omega⟩
      have H4 := Keep.mk (H3.out.below hb3)
      have X4 := Keep.mk (X3.out.below hb3 X3.out.lt)
      clear hb1 hb2 hb3
      clear c3_0 c3_1 c3_2 c3_3 c3_36
      have c4_0 := X4.out.c 0 (opA_0 x)
      have c4_1 := X4.out.c 1 (opA_1 x)
      have c4_2 := X4.out.c 2 (opA_2 x)
      have c4_3 := X4.out.c 3 (opA_3 x)
      have c4_36 := X4.out.c 36 (opA_36 x)
      simp only [Act.put, List.setIfInBounds_toArray, List.set_cons_zero, List.set_cons_succ]
      refine WL.callF (by kernel_rfl) 42 _ _ rfl Try.in42 #[u_3, vb4] (by simp [Act.eval]) ?_
      refine (rbytes_any u_3 vb4 (L1 ++ [x.kind] ++ bform (lst x.key)) (lst x.text) w_4 H4.out.own R4.out.row S4.out (by have := Hbd.out; unfold tl at this; rw [if_pos q38] at this; simp only [List.length_append, List.length_cons, List.length_nil] at this ⊢; omega)).mono ?_
      rintro e w_5 hp
      obtain ⟨u_5, rfl, hq1, hq2, hq3⟩ := hp
      refine ⟨_, rfl, ?_⟩
      have H5 := Keep.mk (H4.out.step hq1 hq2 hq3)
      have X5 := Keep.mk (own_keeps H4.out.own X4.out (by decide) hq3)
      clear hq1 hq2 hq3
      clear c4_0 c4_1 c4_2 c4_3 c4_36
      have c5_0 := X5.out.c 0 (opA_0 x)
      have c5_1 := X5.out.c 1 (opA_1 x)
      have c5_2 := X5.out.c 2 (opA_2 x)
      have c5_3 := X5.out.c 3 (opA_3 x)
      have c5_36 := X5.out.c 36 (opA_36 x)
      simp only [Act.put, List.setIfInBounds_toArray, List.set_cons_zero, List.set_cons_succ]
      refine WL.val (by kernel_rfl) (u_5) (by go_simp) ?_
      simp only [Act.put, List.setIfInBounds_toArray, List.set_cons_zero, List.set_cons_succ]
      refine WL.nil ?_
      refine hK12 _ _ ?_
      refine wp_seq_k fun K14 hK14 => ?_
      refine wp_seq_k fun K15 hK15 => ?_
      refine wp_region_list (WL.out ?_)
      refine WL.val (by kernel_rfl) (.pointer (some ⟨gx, 0, none⟩)) (by go_simp) ?_
      simp only [Act.put, List.setIfInBounds_toArray, List.set_cons_zero, List.set_cons_succ]
      refine WL.val (by kernel_rfl) (.int .i64 x.kind) (by go_simp) ?_
      simp only [Act.put, List.setIfInBounds_toArray, List.set_cons_zero, List.set_cons_succ]
      by_cases h11_2 : x.kind = 6
      · skip
        refine WL.val (by kernel_rfl) (.bool true) (by go_simp) ?_
        simp only [Act.put, List.setIfInBounds_toArray, List.set_cons_zero, List.set_cons_succ]
        refine WL.nil ?_
        refine hK15 _ _ ?_
        refine wp_cond_true rfl ?_
        refine wp_region_list (WL.out ?_)
        refine WL.val (by kernel_rfl) (u_5) (by go_simp) ?_
        simp only [Act.put, List.setIfInBounds_toArray, List.set_cons_zero, List.set_cons_succ]
        refine WL.val (by kernel_rfl) (.pointer (some ⟨gx, 3, none⟩)) (by go_simp) ?_
        simp only [Act.put, List.setIfInBounds_toArray, List.set_cons_zero, List.set_cons_succ]
        refine WL.val (by kernel_rfl) (.int .i64 x.n) (by go_simp) ?_
        simp only [Act.put, List.setIfInBounds_toArray, List.set_cons_zero, List.set_cons_succ]
        refine WL.callF (by kernel_rfl) 44 _ _ rfl Try.in44 #[.int .i64 x.n] (by simp [Act.eval]) ?_
        refine (rzig_any x.n w_5 Hx.out.n1 Hx.out.n2).mono ?_
        rintro e w_y ⟨rfl, hwy⟩
        rw [hwy]
        clear hwy w_y
        refine ⟨_, rfl, ?_⟩
        simp only [Act.put, List.setIfInBounds_toArray, List.set_cons_zero, List.set_cons_succ]
        refine WL.callF (by kernel_rfl) 41 _ _ rfl Try.in41 #[u_5, .int .u64 (zig x.n : Int)] (by simp [Act.eval]) ?_
        refine (rnum_any u_5 (L1 ++ [x.kind] ++ bform (lst x.key) ++ bform (lst x.text)) (zig x.n) w_5 H5.out.own (zig_lt _ Hx.out.n1 Hx.out.n2) (by have := Hbd.out; unfold tl at this; rw [if_pos q38, if_pos h11_2] at this; simp only [List.length_append, List.length_cons, List.length_nil] at this ⊢; omega)).mono ?_
        rintro e w_6 hp
        obtain ⟨u_6, rfl, hq1, hq2, hq3⟩ := hp
        refine ⟨_, rfl, ?_⟩
        have H6 := Keep.mk (H5.out.step hq1 hq2 hq3)
        have X6 := Keep.mk (own_keeps H5.out.own X5.out (by decide) hq3)
        clear hq1 hq2 hq3
        clear c5_0 c5_1 c5_2 c5_3 c5_36
        have c6_0 := X6.out.c 0 (opA_0 x)
        have c6_1 := X6.out.c 1 (opA_1 x)
        have c6_2 := X6.out.c 2 (opA_2 x)
        have c6_3 := X6.out.c 3 (opA_3 x)
        have c6_36 := X6.out.c 36 (opA_36 x)
        simp only [Act.put, List.setIfInBounds_toArray, List.set_cons_zero, List.set_cons_succ]
        refine WL.val (by kernel_rfl) (u_6) (by go_simp) ?_
        simp only [Act.put, List.setIfInBounds_toArray, List.set_cons_zero, List.set_cons_succ]
        refine WL.nil ?_
        refine hK14 _ _ ?_
        refine wp_seq_k fun K16 hK16 => ?_
        refine wp_region_list (WL.out ?_)
        refine WL.val (by kernel_rfl) (.pointer (some ⟨gx, 0, none⟩)) (by go_simp) ?_
        simp only [Act.put, List.setIfInBounds_toArray, List.set_cons_zero, List.set_cons_succ]
        refine WL.val (by kernel_rfl) (.int .i64 x.kind) (by go_simp) ?_
        simp only [Act.put, List.setIfInBounds_toArray, List.set_cons_zero, List.set_cons_succ]
        refine WL.callF (by kernel_rfl) 45 _ _ rfl Try.in45 #[.int .i64 x.kind] (by simp [Act.eval]) ?_
        refine (hasAt_any x.kind w_6).mono ?_
        rintro e w_y ⟨rfl, hwy⟩
        rw [hwy]
        clear hwy w_y
        refine ⟨_, rfl, ?_⟩
        simp only [Act.put, List.setIfInBounds_toArray, List.set_cons_zero, List.set_cons_succ]
        refine WL.val (by kernel_rfl) (.bool (hat x.kind)) (by go_simp) ?_
        simp only [Act.put, List.setIfInBounds_toArray, List.set_cons_zero, List.set_cons_succ]
        refine WL.nil ?_
        refine hK16 _ _ ?_
        refine wp_seq_k fun K17 hK17 => ?_
        refine wp_region_list (WL.out ?_)
        rcases Bool.eq_false_or_eq_true (hat x.kind) with h14_0 | h14_0
        · have q55 := h14_0
          rw [h14_0]
          refine WL.val (by kernel_rfl) (.bool true) (by go_simp) ?_
          simp only [Act.put, List.setIfInBounds_toArray, List.set_cons_zero, List.set_cons_succ]
          refine WL.nil ?_
          refine hK17 _ _ ?_
          refine wp_cond_true rfl ?_
          refine wp_seq_k fun K18 hK18 => ?_
          refine wp_region_list (WL.out ?_)
          refine WL.val (by kernel_rfl) (u_6) (by go_simp) ?_
          simp only [Act.put, List.setIfInBounds_toArray, List.set_cons_zero, List.set_cons_succ]
          refine WL.val (by kernel_rfl) (.pointer (some ⟨gx, 4, none⟩)) (by go_simp) ?_
          simp only [Act.put, List.setIfInBounds_toArray, List.set_cons_zero, List.set_cons_succ]
          refine WL.val (by kernel_rfl) (.pointer (some ⟨gx, 36, none⟩)) (by go_simp) ?_
          simp only [Act.put, List.setIfInBounds_toArray, List.set_cons_zero, List.set_cons_succ]
          refine WL.val (by kernel_rfl) (.int .i64 x.op) (by go_simp) ?_
          simp only [Act.put, List.setIfInBounds_toArray, List.set_cons_zero, List.set_cons_succ]
          obtain ⟨on, hon⟩ : ∃ on : Nat, Keep (x.op = (on : Int)) := ⟨x.op.toNat, ⟨by have := (HHat.out q55).1; omega⟩⟩
          have hwo : IntKind.u64.wrap x.op = (on : Int) := by rw [hon.out, IntKind.wrap_u64]; have := (HHat.out q55).2; have := hon.out; omega
          have Hon : Keep (x.op.toNat = on) := ⟨by rw [hon.out, Int.toNat_natCast]⟩
          refine WL.val (by kernel_rfl) (.int .u64 (on : Int)) (by go_simp) ?_
          simp only [Act.put, List.setIfInBounds_toArray, List.set_cons_zero, List.set_cons_succ]
          refine WL.callF (by kernel_rfl) 41 _ _ rfl Try.in41 #[u_6, .int .u64 (on : Int)] (by simp [Act.eval]) ?_
          refine (rnum_any u_6 (L1 ++ [x.kind] ++ bform (lst x.key) ++ bform (lst x.text) ++ numL (zig x.n)) on w_6 H6.out.own (by have := (HHat.out q55).2; have := hon.out; omega) (by have := Hbd.out; unfold tl at this; rw [if_pos q38, if_pos h11_2, if_pos q55] at this; rw [Hon.out] at this; simp only [List.length_append, List.length_cons, List.length_nil] at this ⊢; omega)).mono ?_
          rintro e w_7 hp
          obtain ⟨u_7, rfl, hq1, hq2, hq3⟩ := hp
          refine ⟨_, rfl, ?_⟩
          have H7 := Keep.mk (H6.out.step hq1 hq2 hq3)
          have X7 := Keep.mk (own_keeps H6.out.own X6.out (by decide) hq3)
          clear hq1 hq2 hq3
          clear c6_0 c6_1 c6_2 c6_3 c6_36
          have c7_0 := X7.out.c 0 (opA_0 x)
          have c7_1 := X7.out.c 1 (opA_1 x)
          have c7_2 := X7.out.c 2 (opA_2 x)
          have c7_3 := X7.out.c 3 (opA_3 x)
          have c7_36 := X7.out.c 36 (opA_36 x)
          simp only [Act.put, List.setIfInBounds_toArray, List.set_cons_zero, List.set_cons_succ]
          refine WL.val (by kernel_rfl) (u_7) (by go_simp) ?_
          simp only [Act.put, List.setIfInBounds_toArray, List.set_cons_zero, List.set_cons_succ]
          refine WL.nil ?_
          refine hK18 _ _ ?_
          refine wp_seq_k fun K19 hK19 => ?_
          refine wp_region_list (WL.out ?_)
          refine WL.val (by kernel_rfl) (.pointer (some ⟨gx, 4, none⟩)) (by go_simp) ?_
          simp only [Act.put, List.setIfInBounds_toArray, List.set_cons_zero, List.set_cons_succ]
          refine WL.val (by kernel_rfl) (.pointer (some ⟨gx, 36, none⟩)) (by go_simp) ?_
          simp only [Act.put, List.setIfInBounds_toArray, List.set_cons_zero, List.set_cons_succ]
          refine WL.val (by kernel_rfl) (.int .i64 x.op) (by go_simp) ?_
          simp only [Act.put, List.setIfInBounds_toArray, List.set_cons_zero, List.set_cons_succ]
          by_cases h16_3 : x.op = 0
          · skip
            refine WL.val (by kernel_rfl) (.bool false) (by go_simp) ?_
            simp only [Act.put, List.setIfInBounds_toArray, List.set_cons_zero, List.set_cons_succ]
            refine WL.nil ?_
            refine hK19 _ _ ?_
            refine wp_cond_false rfl ?_
            refine wp_skip ?_
            refine hK7 _ _ ?_
            refine wp_region_list (WL.out ?_)
            refine WL.val (by kernel_rfl) (.int .i64 (t : Int)) (by go_simp) ?_
            simp only [Act.put, List.setIfInBounds_toArray, List.set_cons_zero, List.set_cons_succ]
            refine WL.val (by kernel_rfl) (.int .i64 ((t : Int) + 1)) (by go_simp) ?_
            simp only [Act.put, List.setIfInBounds_toArray, List.set_cons_zero, List.set_cons_succ]
            refine WL.val (by kernel_rfl) (.int .i64 ((t : Int) + 1)) (by go_simp) ?_
            simp only [Act.put, List.setIfInBounds_toArray, List.set_cons_zero, List.set_cons_succ]
            refine WL.nil ?_
            have hE : L0 ++ numL l.length ++ (l.take (t + 1)).flatMap oneF = L1 ++ [x.kind] ++ bform (lst x.key) ++ bform (lst x.text) ++ numL (zig x.n) ++ numL on := by
              rw [HFull.out]; unfold tl
              rw [if_pos q38, if_pos h11_2, if_pos q55, if_pos h16_3]
              rw [Hon.out]
              simp
            refine ⟨⟨t + 1, u_7, .pointer (some ⟨gx, 0, none⟩), .bool true, .bool true, .int .i64 (t : Int), .slice va l.length vc, .int .i64 (l.length : Int), .bool true, .int .i64 (t : Int), .int .i64 ((t : Int) + 1), .slice va l.length vc, .int .i64 (t : Int), .pointer (some ⟨gL, ofL + t * 37, none⟩), .agg (opA x), u0, .pointer (some ⟨gx, 0, none⟩), .int .i64 x.kind, .int .u8 x.kind, .slice (some ⟨w_0.heap.size, 0, none⟩) 1 1, u_1, u_1, .pointer (some ⟨gx, 1, none⟩), .string x.key, vb2, u_3, .pointer (some ⟨gx, 0, none⟩), .int .i64 x.kind, .bool true, .bool true, u_3, .pointer (some ⟨gx, 2, none⟩), .string x.text, vb4, u_5, .pointer (some ⟨gx, 0, none⟩), .int .i64 x.kind, .bool true, u_5, .pointer (some ⟨gx, 3, none⟩), .int .i64 x.n, .int .u64 (zig x.n : Int), u_6, .pointer (some ⟨gx, 0, none⟩), .int .i64 x.kind, .bool true, .bool true, u_6, .pointer (some ⟨gx, 4, none⟩), .pointer (some ⟨gx, 36, none⟩), .int .i64 x.op, .int .u64 (on : Int), u_7, .pointer (some ⟨gx, 4, none⟩), .pointer (some ⟨gx, 36, none⟩), .int .i64 x.op, .bool false, u66, u67, u68, u69, u70, rfl, by omega, by rw [hE]; exact H7.out⟩, ?_⟩
            simp only [intOf]; show l.length - ((t : Int) + 1).toNat < l.length - ((t : Int)).toNat; omega
          · skip
            refine WL.val (by kernel_rfl) (.bool true) (by go_simp) ?_
            simp only [Act.put, List.setIfInBounds_toArray, List.set_cons_zero, List.set_cons_succ]
            refine WL.nil ?_
            refine hK19 _ _ ?_
            refine wp_cond_true rfl ?_
            refine wp_region_list (WL.out ?_)
            refine WL.val (by kernel_rfl) (u_7) (by go_simp) ?_
            simp only [Act.put, List.setIfInBounds_toArray, List.set_cons_zero, List.set_cons_succ]
            refine WL.val (by kernel_rfl) (.pointer (some ⟨gx, 4, none⟩)) (by go_simp) ?_
            simp only [Act.put, List.setIfInBounds_toArray, List.set_cons_zero, List.set_cons_succ]
            refine WL.val (by kernel_rfl) (.pointer (some ⟨gx, 4, none⟩)) (by go_simp) ?_
            simp only [Act.put, List.setIfInBounds_toArray, List.set_cons_zero, List.set_cons_succ]
            refine WL.midA (by kernel_rfl) 55 (.tmp 68) rfl gx 4 rfl (bytesA 32 (hof x.node)) _ (opA_nodes X7.out) Try.underlying55 rfl (Try.size55B _) ?_
            simp only [Act.put, List.setIfInBounds_toArray, List.set_cons_zero, List.set_cons_succ]
            refine WL.callF (by kernel_rfl) 46 _ _ rfl Try.in46 #[u_7, .agg (bytesA 32 (hof x.node))] (by simp [Act.eval]) ?_
            refine (rhash_any u_7 (L1 ++ [x.kind] ++ bform (lst x.key) ++ bform (lst x.text) ++ numL (zig x.n) ++ numL on) (hof x.node) w_7 H7.out.own (by have := Hbd.out; unfold tl at this; rw [if_pos q38, if_pos h11_2, if_pos q55, if_neg h16_3] at this; rw [Hon.out] at this; simp only [hl_len, List.length_append, List.length_cons, List.length_nil] at this ⊢; omega)).mono ?_
            rintro e w_8 hp
            obtain ⟨u_8, rfl, hq1, hq2, hq3⟩ := hp
            refine ⟨_, rfl, ?_⟩
            have H8 := Keep.mk (H7.out.step hq1 hq2 hq3)
            have X8 := Keep.mk (own_keeps H7.out.own X7.out (by decide) hq3)
            clear hq1 hq2 hq3
            clear c7_0 c7_1 c7_2 c7_3 c7_36
            have c8_0 := X8.out.c 0 (opA_0 x)
            have c8_1 := X8.out.c 1 (opA_1 x)
            have c8_2 := X8.out.c 2 (opA_2 x)
            have c8_3 := X8.out.c 3 (opA_3 x)
            have c8_36 := X8.out.c 36 (opA_36 x)
            simp only [Act.put, List.setIfInBounds_toArray, List.set_cons_zero, List.set_cons_succ]
            refine WL.val (by kernel_rfl) (u_8) (by go_simp) ?_
            simp only [Act.put, List.setIfInBounds_toArray, List.set_cons_zero, List.set_cons_succ]
            refine WL.nil ?_
            refine hK7 _ _ ?_
            refine wp_region_list (WL.out ?_)
            refine WL.val (by kernel_rfl) (.int .i64 (t : Int)) (by go_simp) ?_
            simp only [Act.put, List.setIfInBounds_toArray, List.set_cons_zero, List.set_cons_succ]
            refine WL.val (by kernel_rfl) (.int .i64 ((t : Int) + 1)) (by go_simp) ?_
            simp only [Act.put, List.setIfInBounds_toArray, List.set_cons_zero, List.set_cons_succ]
            refine WL.val (by kernel_rfl) (.int .i64 ((t : Int) + 1)) (by go_simp) ?_
            simp only [Act.put, List.setIfInBounds_toArray, List.set_cons_zero, List.set_cons_succ]
            refine WL.nil ?_
            have hE : L0 ++ numL l.length ++ (l.take (t + 1)).flatMap oneF = L1 ++ [x.kind] ++ bform (lst x.key) ++ bform (lst x.text) ++ numL (zig x.n) ++ numL on ++ hl 32 (hof x.node) := by
              rw [HFull.out]; unfold tl
              rw [if_pos q38, if_pos h11_2, if_pos q55, if_neg h16_3]
              rw [Hon.out]
              simp
            refine ⟨⟨t + 1, u_8, .pointer (some ⟨gx, 0, none⟩), .bool true, .bool true, .int .i64 (t : Int), .slice va l.length vc, .int .i64 (l.length : Int), .bool true, .int .i64 (t : Int), .int .i64 ((t : Int) + 1), .slice va l.length vc, .int .i64 (t : Int), .pointer (some ⟨gL, ofL + t * 37, none⟩), .agg (opA x), u0, .pointer (some ⟨gx, 0, none⟩), .int .i64 x.kind, .int .u8 x.kind, .slice (some ⟨w_0.heap.size, 0, none⟩) 1 1, u_1, u_1, .pointer (some ⟨gx, 1, none⟩), .string x.key, vb2, u_3, .pointer (some ⟨gx, 0, none⟩), .int .i64 x.kind, .bool true, .bool true, u_3, .pointer (some ⟨gx, 2, none⟩), .string x.text, vb4, u_5, .pointer (some ⟨gx, 0, none⟩), .int .i64 x.kind, .bool true, u_5, .pointer (some ⟨gx, 3, none⟩), .int .i64 x.n, .int .u64 (zig x.n : Int), u_6, .pointer (some ⟨gx, 0, none⟩), .int .i64 x.kind, .bool true, .bool true, u_6, .pointer (some ⟨gx, 4, none⟩), .pointer (some ⟨gx, 36, none⟩), .int .i64 x.op, .int .u64 (on : Int), u_7, .pointer (some ⟨gx, 4, none⟩), .pointer (some ⟨gx, 36, none⟩), .int .i64 x.op, .bool true, u_7, .pointer (some ⟨gx, 4, none⟩), .pointer (some ⟨gx, 4, none⟩), .agg (bytesA 32 (hof x.node)), u_8, rfl, by omega, by rw [hE]; exact H8.out⟩, ?_⟩
            simp only [intOf]; show l.length - ((t : Int) + 1).toNat < l.length - ((t : Int)).toNat; omega
        · have q55 := h14_0
          rw [h14_0]
          refine WL.val (by kernel_rfl) (.bool false) (by go_simp) ?_
          simp only [Act.put, List.setIfInBounds_toArray, List.set_cons_zero, List.set_cons_succ]
          refine WL.nil ?_
          refine hK17 _ _ ?_
          refine wp_cond_false rfl ?_
          refine wp_skip ?_
          refine hK7 _ _ ?_
          refine wp_region_list (WL.out ?_)
          refine WL.val (by kernel_rfl) (.int .i64 (t : Int)) (by go_simp) ?_
          simp only [Act.put, List.setIfInBounds_toArray, List.set_cons_zero, List.set_cons_succ]
          refine WL.val (by kernel_rfl) (.int .i64 ((t : Int) + 1)) (by go_simp) ?_
          simp only [Act.put, List.setIfInBounds_toArray, List.set_cons_zero, List.set_cons_succ]
          refine WL.val (by kernel_rfl) (.int .i64 ((t : Int) + 1)) (by go_simp) ?_
          simp only [Act.put, List.setIfInBounds_toArray, List.set_cons_zero, List.set_cons_succ]
          refine WL.nil ?_
          have hE : L0 ++ numL l.length ++ (l.take (t + 1)).flatMap oneF = L1 ++ [x.kind] ++ bform (lst x.key) ++ bform (lst x.text) ++ numL (zig x.n) := by
            rw [HFull.out]; unfold tl
            rw [if_pos q38, if_pos h11_2, if_neg (show ¬ hat x.kind = true by rw [q55]; decide)]
            simp
          refine ⟨⟨t + 1, u_6, .pointer (some ⟨gx, 0, none⟩), .bool true, .bool false, .int .i64 (t : Int), .slice va l.length vc, .int .i64 (l.length : Int), .bool true, .int .i64 (t : Int), .int .i64 ((t : Int) + 1), .slice va l.length vc, .int .i64 (t : Int), .pointer (some ⟨gL, ofL + t * 37, none⟩), .agg (opA x), u0, .pointer (some ⟨gx, 0, none⟩), .int .i64 x.kind, .int .u8 x.kind, .slice (some ⟨w_0.heap.size, 0, none⟩) 1 1, u_1, u_1, .pointer (some ⟨gx, 1, none⟩), .string x.key, vb2, u_3, .pointer (some ⟨gx, 0, none⟩), .int .i64 x.kind, .bool true, .bool true, u_3, .pointer (some ⟨gx, 2, none⟩), .string x.text, vb4, u_5, .pointer (some ⟨gx, 0, none⟩), .int .i64 x.kind, .bool true, u_5, .pointer (some ⟨gx, 3, none⟩), .int .i64 x.n, .int .u64 (zig x.n : Int), u_6, .pointer (some ⟨gx, 0, none⟩), .int .i64 x.kind, .bool false, .bool false, u56, u57, u58, u59, u60, u61, u62, u63, u64, u65, u66, u67, u68, u69, u70, rfl, by omega, by rw [hE]; exact H6.out⟩, ?_⟩
          simp only [intOf]; show l.length - ((t : Int) + 1).toNat < l.length - ((t : Int)).toNat; omega
      · skip
        refine WL.val (by kernel_rfl) (.bool false) (by go_simp) ?_
        simp only [Act.put, List.setIfInBounds_toArray, List.set_cons_zero, List.set_cons_succ]
        refine WL.nil ?_
        refine hK15 _ _ ?_
        refine wp_cond_false rfl ?_
        refine wp_skip ?_
        refine hK14 _ _ ?_
        refine wp_seq_k fun K20 hK20 => ?_
        refine wp_region_list (WL.out ?_)
        refine WL.val (by kernel_rfl) (.pointer (some ⟨gx, 0, none⟩)) (by go_simp) ?_
        simp only [Act.put, List.setIfInBounds_toArray, List.set_cons_zero, List.set_cons_succ]
        refine WL.val (by kernel_rfl) (.int .i64 x.kind) (by go_simp) ?_
        simp only [Act.put, List.setIfInBounds_toArray, List.set_cons_zero, List.set_cons_succ]
        refine WL.callF (by kernel_rfl) 45 _ _ rfl Try.in45 #[.int .i64 x.kind] (by simp [Act.eval]) ?_
        refine (hasAt_any x.kind w_5).mono ?_
        rintro e w_y ⟨rfl, hwy⟩
        rw [hwy]
        clear hwy w_y
        refine ⟨_, rfl, ?_⟩
        simp only [Act.put, List.setIfInBounds_toArray, List.set_cons_zero, List.set_cons_succ]
        refine WL.val (by kernel_rfl) (.bool (hat x.kind)) (by go_simp) ?_
        simp only [Act.put, List.setIfInBounds_toArray, List.set_cons_zero, List.set_cons_succ]
        refine WL.nil ?_
        refine hK20 _ _ ?_
        refine wp_seq_k fun K21 hK21 => ?_
        refine wp_region_list (WL.out ?_)
        rcases Bool.eq_false_or_eq_true (hat x.kind) with h14_0 | h14_0
        · have q55 := h14_0
          rw [h14_0]
          refine WL.val (by kernel_rfl) (.bool true) (by go_simp) ?_
          simp only [Act.put, List.setIfInBounds_toArray, List.set_cons_zero, List.set_cons_succ]
          refine WL.nil ?_
          refine hK21 _ _ ?_
          refine wp_cond_true rfl ?_
          refine wp_seq_k fun K22 hK22 => ?_
          refine wp_region_list (WL.out ?_)
          refine WL.val (by kernel_rfl) (u_5) (by go_simp) ?_
          simp only [Act.put, List.setIfInBounds_toArray, List.set_cons_zero, List.set_cons_succ]
          refine WL.val (by kernel_rfl) (.pointer (some ⟨gx, 4, none⟩)) (by go_simp) ?_
          simp only [Act.put, List.setIfInBounds_toArray, List.set_cons_zero, List.set_cons_succ]
          refine WL.val (by kernel_rfl) (.pointer (some ⟨gx, 36, none⟩)) (by go_simp) ?_
          simp only [Act.put, List.setIfInBounds_toArray, List.set_cons_zero, List.set_cons_succ]
          refine WL.val (by kernel_rfl) (.int .i64 x.op) (by go_simp) ?_
          simp only [Act.put, List.setIfInBounds_toArray, List.set_cons_zero, List.set_cons_succ]
          obtain ⟨on, hon⟩ : ∃ on : Nat, Keep (x.op = (on : Int)) := ⟨x.op.toNat, ⟨by have := (HHat.out q55).1; omega⟩⟩
          have hwo : IntKind.u64.wrap x.op = (on : Int) := by rw [hon.out, IntKind.wrap_u64]; have := (HHat.out q55).2; have := hon.out; omega
          have Hon : Keep (x.op.toNat = on) := ⟨by rw [hon.out, Int.toNat_natCast]⟩
          refine WL.val (by kernel_rfl) (.int .u64 (on : Int)) (by go_simp) ?_
          simp only [Act.put, List.setIfInBounds_toArray, List.set_cons_zero, List.set_cons_succ]
          refine WL.callF (by kernel_rfl) 41 _ _ rfl Try.in41 #[u_5, .int .u64 (on : Int)] (by simp [Act.eval]) ?_
          refine (rnum_any u_5 (L1 ++ [x.kind] ++ bform (lst x.key) ++ bform (lst x.text)) on w_5 H5.out.own (by have := (HHat.out q55).2; have := hon.out; omega) (by have := Hbd.out; unfold tl at this; rw [if_pos q38, if_neg h11_2, if_pos q55] at this; rw [Hon.out] at this; simp only [List.length_append, List.length_cons, List.length_nil] at this ⊢; omega)).mono ?_
          rintro e w_6 hp
          obtain ⟨u_6, rfl, hq1, hq2, hq3⟩ := hp
          refine ⟨_, rfl, ?_⟩
          have H6 := Keep.mk (H5.out.step hq1 hq2 hq3)
          have X6 := Keep.mk (own_keeps H5.out.own X5.out (by decide) hq3)
          clear hq1 hq2 hq3
          clear c5_0 c5_1 c5_2 c5_3 c5_36
          have c6_0 := X6.out.c 0 (opA_0 x)
          have c6_1 := X6.out.c 1 (opA_1 x)
          have c6_2 := X6.out.c 2 (opA_2 x)
          have c6_3 := X6.out.c 3 (opA_3 x)
          have c6_36 := X6.out.c 36 (opA_36 x)
          simp only [Act.put, List.setIfInBounds_toArray, List.set_cons_zero, List.set_cons_succ]
          refine WL.val (by kernel_rfl) (u_6) (by go_simp) ?_
          simp only [Act.put, List.setIfInBounds_toArray, List.set_cons_zero, List.set_cons_succ]
          refine WL.nil ?_
          refine hK22 _ _ ?_
          refine wp_seq_k fun K23 hK23 => ?_
          refine wp_region_list (WL.out ?_)
          refine WL.val (by kernel_rfl) (.pointer (some ⟨gx, 4, none⟩)) (by go_simp) ?_
          simp only [Act.put, List.setIfInBounds_toArray, List.set_cons_zero, List.set_cons_succ]
          refine WL.val (by kernel_rfl) (.pointer (some ⟨gx, 36, none⟩)) (by go_simp) ?_
          simp only [Act.put, List.setIfInBounds_toArray, List.set_cons_zero, List.set_cons_succ]
          refine WL.val (by kernel_rfl) (.int .i64 x.op) (by go_simp) ?_
          simp only [Act.put, List.setIfInBounds_toArray, List.set_cons_zero, List.set_cons_succ]
          by_cases h16_3 : x.op = 0
          · skip
            refine WL.val (by kernel_rfl) (.bool false) (by go_simp) ?_
            simp only [Act.put, List.setIfInBounds_toArray, List.set_cons_zero, List.set_cons_succ]
            refine WL.nil ?_
            refine hK23 _ _ ?_
            refine wp_cond_false rfl ?_
            refine wp_skip ?_
            refine hK7 _ _ ?_
            refine wp_region_list (WL.out ?_)
            refine WL.val (by kernel_rfl) (.int .i64 (t : Int)) (by go_simp) ?_
            simp only [Act.put, List.setIfInBounds_toArray, List.set_cons_zero, List.set_cons_succ]
            refine WL.val (by kernel_rfl) (.int .i64 ((t : Int) + 1)) (by go_simp) ?_
            simp only [Act.put, List.setIfInBounds_toArray, List.set_cons_zero, List.set_cons_succ]
            refine WL.val (by kernel_rfl) (.int .i64 ((t : Int) + 1)) (by go_simp) ?_
            simp only [Act.put, List.setIfInBounds_toArray, List.set_cons_zero, List.set_cons_succ]
            refine WL.nil ?_
            have hE : L0 ++ numL l.length ++ (l.take (t + 1)).flatMap oneF = L1 ++ [x.kind] ++ bform (lst x.key) ++ bform (lst x.text) ++ numL on := by
              rw [HFull.out]; unfold tl
              rw [if_pos q38, if_neg h11_2, if_pos q55, if_pos h16_3]
              rw [Hon.out]
              simp
            refine ⟨⟨t + 1, u_6, .pointer (some ⟨gx, 0, none⟩), .bool true, .bool true, .int .i64 (t : Int), .slice va l.length vc, .int .i64 (l.length : Int), .bool true, .int .i64 (t : Int), .int .i64 ((t : Int) + 1), .slice va l.length vc, .int .i64 (t : Int), .pointer (some ⟨gL, ofL + t * 37, none⟩), .agg (opA x), u0, .pointer (some ⟨gx, 0, none⟩), .int .i64 x.kind, .int .u8 x.kind, .slice (some ⟨w_0.heap.size, 0, none⟩) 1 1, u_1, u_1, .pointer (some ⟨gx, 1, none⟩), .string x.key, vb2, u_3, .pointer (some ⟨gx, 0, none⟩), .int .i64 x.kind, .bool true, .bool true, u_3, .pointer (some ⟨gx, 2, none⟩), .string x.text, vb4, u_5, .pointer (some ⟨gx, 0, none⟩), .int .i64 x.kind, .bool false, u47, u48, u49, u50, u51, .pointer (some ⟨gx, 0, none⟩), .int .i64 x.kind, .bool true, .bool true, u_5, .pointer (some ⟨gx, 4, none⟩), .pointer (some ⟨gx, 36, none⟩), .int .i64 x.op, .int .u64 (on : Int), u_6, .pointer (some ⟨gx, 4, none⟩), .pointer (some ⟨gx, 36, none⟩), .int .i64 x.op, .bool false, u66, u67, u68, u69, u70, rfl, by omega, by rw [hE]; exact H6.out⟩, ?_⟩
            simp only [intOf]; show l.length - ((t : Int) + 1).toNat < l.length - ((t : Int)).toNat; omega
          · skip
            refine WL.val (by kernel_rfl) (.bool true) (by go_simp) ?_
            simp only [Act.put, List.setIfInBounds_toArray, List.set_cons_zero, List.set_cons_succ]
            refine WL.nil ?_
            refine hK23 _ _ ?_
            refine wp_cond_true rfl ?_
            refine wp_region_list (WL.out ?_)
            refine WL.val (by kernel_rfl) (u_6) (by go_simp) ?_
            simp only [Act.put, List.setIfInBounds_toArray, List.set_cons_zero, List.set_cons_succ]
            refine WL.val (by kernel_rfl) (.pointer (some ⟨gx, 4, none⟩)) (by go_simp) ?_
            simp only [Act.put, List.setIfInBounds_toArray, List.set_cons_zero, List.set_cons_succ]
            refine WL.val (by kernel_rfl) (.pointer (some ⟨gx, 4, none⟩)) (by go_simp) ?_
            simp only [Act.put, List.setIfInBounds_toArray, List.set_cons_zero, List.set_cons_succ]
            refine WL.midA (by kernel_rfl) 55 (.tmp 68) rfl gx 4 rfl (bytesA 32 (hof x.node)) _ (opA_nodes X6.out) Try.underlying55 rfl (Try.size55B _) ?_
            simp only [Act.put, List.setIfInBounds_toArray, List.set_cons_zero, List.set_cons_succ]
            refine WL.callF (by kernel_rfl) 46 _ _ rfl Try.in46 #[u_6, .agg (bytesA 32 (hof x.node))] (by simp [Act.eval]) ?_
            refine (rhash_any u_6 (L1 ++ [x.kind] ++ bform (lst x.key) ++ bform (lst x.text) ++ numL on) (hof x.node) w_6 H6.out.own (by have := Hbd.out; unfold tl at this; rw [if_pos q38, if_neg h11_2, if_pos q55, if_neg h16_3] at this; rw [Hon.out] at this; simp only [hl_len, List.length_append, List.length_cons, List.length_nil] at this ⊢; omega)).mono ?_
            rintro e w_7 hp
            obtain ⟨u_7, rfl, hq1, hq2, hq3⟩ := hp
            refine ⟨_, rfl, ?_⟩
            have H7 := Keep.mk (H6.out.step hq1 hq2 hq3)
            have X7 := Keep.mk (own_keeps H6.out.own X6.out (by decide) hq3)
            clear hq1 hq2 hq3
            clear c6_0 c6_1 c6_2 c6_3 c6_36
            have c7_0 := X7.out.c 0 (opA_0 x)
            have c7_1 := X7.out.c 1 (opA_1 x)
            have c7_2 := X7.out.c 2 (opA_2 x)
            have c7_3 := X7.out.c 3 (opA_3 x)
            have c7_36 := X7.out.c 36 (opA_36 x)
            simp only [Act.put, List.setIfInBounds_toArray, List.set_cons_zero, List.set_cons_succ]
            refine WL.val (by kernel_rfl) (u_7) (by go_simp) ?_
            simp only [Act.put, List.setIfInBounds_toArray, List.set_cons_zero, List.set_cons_succ]
            refine WL.nil ?_
            refine hK7 _ _ ?_
            refine wp_region_list (WL.out ?_)
            refine WL.val (by kernel_rfl) (.int .i64 (t : Int)) (by go_simp) ?_
            simp only [Act.put, List.setIfInBounds_toArray, List.set_cons_zero, List.set_cons_succ]
            refine WL.val (by kernel_rfl) (.int .i64 ((t : Int) + 1)) (by go_simp) ?_
            simp only [Act.put, List.setIfInBounds_toArray, List.set_cons_zero, List.set_cons_succ]
            refine WL.val (by kernel_rfl) (.int .i64 ((t : Int) + 1)) (by go_simp) ?_
            simp only [Act.put, List.setIfInBounds_toArray, List.set_cons_zero, List.set_cons_succ]
            refine WL.nil ?_
            have hE : L0 ++ numL l.length ++ (l.take (t + 1)).flatMap oneF = L1 ++ [x.kind] ++ bform (lst x.key) ++ bform (lst x.text) ++ numL on ++ hl 32 (hof x.node) := by
              rw [HFull.out]; unfold tl
              rw [if_pos q38, if_neg h11_2, if_pos q55, if_neg h16_3]
              rw [Hon.out]
              simp
            refine ⟨⟨t + 1, u_7, .pointer (some ⟨gx, 0, none⟩), .bool true, .bool true, .int .i64 (t : Int), .slice va l.length vc, .int .i64 (l.length : Int), .bool true, .int .i64 (t : Int), .int .i64 ((t : Int) + 1), .slice va l.length vc, .int .i64 (t : Int), .pointer (some ⟨gL, ofL + t * 37, none⟩), .agg (opA x), u0, .pointer (some ⟨gx, 0, none⟩), .int .i64 x.kind, .int .u8 x.kind, .slice (some ⟨w_0.heap.size, 0, none⟩) 1 1, u_1, u_1, .pointer (some ⟨gx, 1, none⟩), .string x.key, vb2, u_3, .pointer (some ⟨gx, 0, none⟩), .int .i64 x.kind, .bool true, .bool true, u_3, .pointer (some ⟨gx, 2, none⟩), .string x.text, vb4, u_5, .pointer (some ⟨gx, 0, none⟩), .int .i64 x.kind, .bool false, u47, u48, u49, u50, u51, .pointer (some ⟨gx, 0, none⟩), .int .i64 x.kind, .bool true, .bool true, u_5, .pointer (some ⟨gx, 4, none⟩), .pointer (some ⟨gx, 36, none⟩), .int .i64 x.op, .int .u64 (on : Int), u_6, .pointer (some ⟨gx, 4, none⟩), .pointer (some ⟨gx, 36, none⟩), .int .i64 x.op, .bool true, u_6, .pointer (some ⟨gx, 4, none⟩), .pointer (some ⟨gx, 4, none⟩), .agg (bytesA 32 (hof x.node)), u_7, rfl, by omega, by rw [hE]; exact H7.out⟩, ?_⟩
            simp only [intOf]; show l.length - ((t : Int) + 1).toNat < l.length - ((t : Int)).toNat; omega
        · have q55 := h14_0
          rw [h14_0]
          refine WL.val (by kernel_rfl) (.bool false) (by go_simp) ?_
          simp only [Act.put, List.setIfInBounds_toArray, List.set_cons_zero, List.set_cons_succ]
          refine WL.nil ?_
          refine hK21 _ _ ?_
          refine wp_cond_false rfl ?_
          refine wp_skip ?_
          refine hK7 _ _ ?_
          refine wp_region_list (WL.out ?_)
          refine WL.val (by kernel_rfl) (.int .i64 (t : Int)) (by go_simp) ?_
          simp only [Act.put, List.setIfInBounds_toArray, List.set_cons_zero, List.set_cons_succ]
          refine WL.val (by kernel_rfl) (.int .i64 ((t : Int) + 1)) (by go_simp) ?_
          simp only [Act.put, List.setIfInBounds_toArray, List.set_cons_zero, List.set_cons_succ]
          refine WL.val (by kernel_rfl) (.int .i64 ((t : Int) + 1)) (by go_simp) ?_
          simp only [Act.put, List.setIfInBounds_toArray, List.set_cons_zero, List.set_cons_succ]
          refine WL.nil ?_
          have hE : L0 ++ numL l.length ++ (l.take (t + 1)).flatMap oneF = L1 ++ [x.kind] ++ bform (lst x.key) ++ bform (lst x.text) := by
            rw [HFull.out]; unfold tl
            rw [if_pos q38, if_neg h11_2, if_neg (show ¬ hat x.kind = true by rw [q55]; decide)]
            simp
          refine ⟨⟨t + 1, u_5, .pointer (some ⟨gx, 0, none⟩), .bool true, .bool false, .int .i64 (t : Int), .slice va l.length vc, .int .i64 (l.length : Int), .bool true, .int .i64 (t : Int), .int .i64 ((t : Int) + 1), .slice va l.length vc, .int .i64 (t : Int), .pointer (some ⟨gL, ofL + t * 37, none⟩), .agg (opA x), u0, .pointer (some ⟨gx, 0, none⟩), .int .i64 x.kind, .int .u8 x.kind, .slice (some ⟨w_0.heap.size, 0, none⟩) 1 1, u_1, u_1, .pointer (some ⟨gx, 1, none⟩), .string x.key, vb2, u_3, .pointer (some ⟨gx, 0, none⟩), .int .i64 x.kind, .bool true, .bool true, u_3, .pointer (some ⟨gx, 2, none⟩), .string x.text, vb4, u_5, .pointer (some ⟨gx, 0, none⟩), .int .i64 x.kind, .bool false, u47, u48, u49, u50, u51, .pointer (some ⟨gx, 0, none⟩), .int .i64 x.kind, .bool false, .bool false, u56, u57, u58, u59, u60, u61, u62, u63, u64, u65, u66, u67, u68, u69, u70, rfl, by omega, by rw [hE]; exact H5.out⟩, ?_⟩
          simp only [intOf]; show l.length - ((t : Int) + 1).toNat < l.length - ((t : Int)).toNat; omega
    · have q38 := h9_0
      rw [h9_0]
      refine WL.val (by kernel_rfl) (.bool false) (by go_simp) ?_
      simp only [Act.put, List.setIfInBounds_toArray, List.set_cons_zero, List.set_cons_succ]
      refine WL.nil ?_
      refine hK13 _ _ ?_
      refine wp_cond_false rfl ?_
      refine wp_skip ?_
      refine hK12 _ _ ?_
      refine wp_seq_k fun K24 hK24 => ?_
      refine wp_seq_k fun K25 hK25 => ?_
      refine wp_region_list (WL.out ?_)
      refine WL.val (by kernel_rfl) (.pointer (some ⟨gx, 0, none⟩)) (by go_simp) ?_
      simp only [Act.put, List.setIfInBounds_toArray, List.set_cons_zero, List.set_cons_succ]
      refine WL.val (by kernel_rfl) (.int .i64 x.kind) (by go_simp) ?_
      simp only [Act.put, List.setIfInBounds_toArray, List.set_cons_zero, List.set_cons_succ]
      by_cases h11_2 : x.kind = 6
      · skip
        refine WL.val (by kernel_rfl) (.bool true) (by go_simp) ?_
        simp only [Act.put, List.setIfInBounds_toArray, List.set_cons_zero, List.set_cons_succ]
        refine WL.nil ?_
        refine hK25 _ _ ?_
        refine wp_cond_true rfl ?_
        refine wp_region_list (WL.out ?_)
        refine WL.val (by kernel_rfl) (u_3) (by go_simp) ?_
        simp only [Act.put, List.setIfInBounds_toArray, List.set_cons_zero, List.set_cons_succ]
        refine WL.val (by kernel_rfl) (.pointer (some ⟨gx, 3, none⟩)) (by go_simp) ?_
        simp only [Act.put, List.setIfInBounds_toArray, List.set_cons_zero, List.set_cons_succ]
        refine WL.val (by kernel_rfl) (.int .i64 x.n) (by go_simp) ?_
        simp only [Act.put, List.setIfInBounds_toArray, List.set_cons_zero, List.set_cons_succ]
        refine WL.callF (by kernel_rfl) 44 _ _ rfl Try.in44 #[.int .i64 x.n] (by simp [Act.eval]) ?_
        refine (rzig_any x.n w_3 Hx.out.n1 Hx.out.n2).mono ?_
        rintro e w_y ⟨rfl, hwy⟩
        rw [hwy]
        clear hwy w_y
        refine ⟨_, rfl, ?_⟩
        simp only [Act.put, List.setIfInBounds_toArray, List.set_cons_zero, List.set_cons_succ]
        refine WL.callF (by kernel_rfl) 41 _ _ rfl Try.in41 #[u_3, .int .u64 (zig x.n : Int)] (by simp [Act.eval]) ?_
        refine (rnum_any u_3 (L1 ++ [x.kind] ++ bform (lst x.key)) (zig x.n) w_3 H3.out.own (zig_lt _ Hx.out.n1 Hx.out.n2) (by have := Hbd.out; unfold tl at this; rw [if_neg (show ¬ txt x.kind = true by rw [q38]; decide), if_pos h11_2] at this; simp only [List.length_append, List.length_cons, List.length_nil] at this ⊢; omega)).mono ?_
        rintro e w_4 hp
        obtain ⟨u_4, rfl, hq1, hq2, hq3⟩ := hp
        refine ⟨_, rfl, ?_⟩
        have H4 := Keep.mk (H3.out.step hq1 hq2 hq3)
        have X4 := Keep.mk (own_keeps H3.out.own X3.out (by decide) hq3)
        clear hq1 hq2 hq3
        clear c3_0 c3_1 c3_2 c3_3 c3_36
        have c4_0 := X4.out.c 0 (opA_0 x)
        have c4_1 := X4.out.c 1 (opA_1 x)
        have c4_2 := X4.out.c 2 (opA_2 x)
        have c4_3 := X4.out.c 3 (opA_3 x)
        have c4_36 := X4.out.c 36 (opA_36 x)
        simp only [Act.put, List.setIfInBounds_toArray, List.set_cons_zero, List.set_cons_succ]
        refine WL.val (by kernel_rfl) (u_4) (by go_simp) ?_
        simp only [Act.put, List.setIfInBounds_toArray, List.set_cons_zero, List.set_cons_succ]
        refine WL.nil ?_
        refine hK24 _ _ ?_
        refine wp_seq_k fun K26 hK26 => ?_
        refine wp_region_list (WL.out ?_)
        refine WL.val (by kernel_rfl) (.pointer (some ⟨gx, 0, none⟩)) (by go_simp) ?_
        simp only [Act.put, List.setIfInBounds_toArray, List.set_cons_zero, List.set_cons_succ]
        refine WL.val (by kernel_rfl) (.int .i64 x.kind) (by go_simp) ?_
        simp only [Act.put, List.setIfInBounds_toArray, List.set_cons_zero, List.set_cons_succ]
        refine WL.callF (by kernel_rfl) 45 _ _ rfl Try.in45 #[.int .i64 x.kind] (by simp [Act.eval]) ?_
        refine (hasAt_any x.kind w_4).mono ?_
        rintro e w_y ⟨rfl, hwy⟩
        rw [hwy]
        clear hwy w_y
        refine ⟨_, rfl, ?_⟩
        simp only [Act.put, List.setIfInBounds_toArray, List.set_cons_zero, List.set_cons_succ]
        refine WL.val (by kernel_rfl) (.bool (hat x.kind)) (by go_simp) ?_
        simp only [Act.put, List.setIfInBounds_toArray, List.set_cons_zero, List.set_cons_succ]
        refine WL.nil ?_
        refine hK26 _ _ ?_
        refine wp_seq_k fun K27 hK27 => ?_
        refine wp_region_list (WL.out ?_)
        rcases Bool.eq_false_or_eq_true (hat x.kind) with h14_0 | h14_0
        · have q55 := h14_0
          rw [h14_0]
          refine WL.val (by kernel_rfl) (.bool true) (by go_simp) ?_
          simp only [Act.put, List.setIfInBounds_toArray, List.set_cons_zero, List.set_cons_succ]
          refine WL.nil ?_
          refine hK27 _ _ ?_
          refine wp_cond_true rfl ?_
          refine wp_seq_k fun K28 hK28 => ?_
          refine wp_region_list (WL.out ?_)
          refine WL.val (by kernel_rfl) (u_4) (by go_simp) ?_
          simp only [Act.put, List.setIfInBounds_toArray, List.set_cons_zero, List.set_cons_succ]
          refine WL.val (by kernel_rfl) (.pointer (some ⟨gx, 4, none⟩)) (by go_simp) ?_
          simp only [Act.put, List.setIfInBounds_toArray, List.set_cons_zero, List.set_cons_succ]
          refine WL.val (by kernel_rfl) (.pointer (some ⟨gx, 36, none⟩)) (by go_simp) ?_
          simp only [Act.put, List.setIfInBounds_toArray, List.set_cons_zero, List.set_cons_succ]
          refine WL.val (by kernel_rfl) (.int .i64 x.op) (by go_simp) ?_
          simp only [Act.put, List.setIfInBounds_toArray, List.set_cons_zero, List.set_cons_succ]
          obtain ⟨on, hon⟩ : ∃ on : Nat, Keep (x.op = (on : Int)) := ⟨x.op.toNat, ⟨by have := (HHat.out q55).1; omega⟩⟩
          have hwo : IntKind.u64.wrap x.op = (on : Int) := by rw [hon.out, IntKind.wrap_u64]; have := (HHat.out q55).2; have := hon.out; omega
          have Hon : Keep (x.op.toNat = on) := ⟨by rw [hon.out, Int.toNat_natCast]⟩
          refine WL.val (by kernel_rfl) (.int .u64 (on : Int)) (by go_simp) ?_
          simp only [Act.put, List.setIfInBounds_toArray, List.set_cons_zero, List.set_cons_succ]
          refine WL.callF (by kernel_rfl) 41 _ _ rfl Try.in41 #[u_4, .int .u64 (on : Int)] (by simp [Act.eval]) ?_
          refine (rnum_any u_4 (L1 ++ [x.kind] ++ bform (lst x.key) ++ numL (zig x.n)) on w_4 H4.out.own (by have := (HHat.out q55).2; have := hon.out; omega) (by have := Hbd.out; unfold tl at this; rw [if_neg (show ¬ txt x.kind = true by rw [q38]; decide), if_pos h11_2, if_pos q55] at this; rw [Hon.out] at this; simp only [List.length_append, List.length_cons, List.length_nil] at this ⊢; omega)).mono ?_
          rintro e w_5 hp
          obtain ⟨u_5, rfl, hq1, hq2, hq3⟩ := hp
          refine ⟨_, rfl, ?_⟩
          have H5 := Keep.mk (H4.out.step hq1 hq2 hq3)
          have X5 := Keep.mk (own_keeps H4.out.own X4.out (by decide) hq3)
          clear hq1 hq2 hq3
          clear c4_0 c4_1 c4_2 c4_3 c4_36
          have c5_0 := X5.out.c 0 (opA_0 x)
          have c5_1 := X5.out.c 1 (opA_1 x)
          have c5_2 := X5.out.c 2 (opA_2 x)
          have c5_3 := X5.out.c 3 (opA_3 x)
          have c5_36 := X5.out.c 36 (opA_36 x)
          simp only [Act.put, List.setIfInBounds_toArray, List.set_cons_zero, List.set_cons_succ]
          refine WL.val (by kernel_rfl) (u_5) (by go_simp) ?_
          simp only [Act.put, List.setIfInBounds_toArray, List.set_cons_zero, List.set_cons_succ]
          refine WL.nil ?_
          refine hK28 _ _ ?_
          refine wp_seq_k fun K29 hK29 => ?_
          refine wp_region_list (WL.out ?_)
          refine WL.val (by kernel_rfl) (.pointer (some ⟨gx, 4, none⟩)) (by go_simp) ?_
          simp only [Act.put, List.setIfInBounds_toArray, List.set_cons_zero, List.set_cons_succ]
          refine WL.val (by kernel_rfl) (.pointer (some ⟨gx, 36, none⟩)) (by go_simp) ?_
          simp only [Act.put, List.setIfInBounds_toArray, List.set_cons_zero, List.set_cons_succ]
          refine WL.val (by kernel_rfl) (.int .i64 x.op) (by go_simp) ?_
          simp only [Act.put, List.setIfInBounds_toArray, List.set_cons_zero, List.set_cons_succ]
          by_cases h16_3 : x.op = 0
          · skip
            refine WL.val (by kernel_rfl) (.bool false) (by go_simp) ?_
            simp only [Act.put, List.setIfInBounds_toArray, List.set_cons_zero, List.set_cons_succ]
            refine WL.nil ?_
            refine hK29 _ _ ?_
            refine wp_cond_false rfl ?_
            refine wp_skip ?_
            refine hK7 _ _ ?_
            refine wp_region_list (WL.out ?_)
            refine WL.val (by kernel_rfl) (.int .i64 (t : Int)) (by go_simp) ?_
            simp only [Act.put, List.setIfInBounds_toArray, List.set_cons_zero, List.set_cons_succ]
            refine WL.val (by kernel_rfl) (.int .i64 ((t : Int) + 1)) (by go_simp) ?_
            simp only [Act.put, List.setIfInBounds_toArray, List.set_cons_zero, List.set_cons_succ]
            refine WL.val (by kernel_rfl) (.int .i64 ((t : Int) + 1)) (by go_simp) ?_
            simp only [Act.put, List.setIfInBounds_toArray, List.set_cons_zero, List.set_cons_succ]
            refine WL.nil ?_
            have hE : L0 ++ numL l.length ++ (l.take (t + 1)).flatMap oneF = L1 ++ [x.kind] ++ bform (lst x.key) ++ numL (zig x.n) ++ numL on := by
              rw [HFull.out]; unfold tl
              rw [if_neg (show ¬ txt x.kind = true by rw [q38]; decide), if_pos h11_2, if_pos q55, if_pos h16_3]
              rw [Hon.out]
              simp
            refine ⟨⟨t + 1, u_5, .pointer (some ⟨gx, 0, none⟩), .bool false, .bool true, .int .i64 (t : Int), .slice va l.length vc, .int .i64 (l.length : Int), .bool true, .int .i64 (t : Int), .int .i64 ((t : Int) + 1), .slice va l.length vc, .int .i64 (t : Int), .pointer (some ⟨gL, ofL + t * 37, none⟩), .agg (opA x), u0, .pointer (some ⟨gx, 0, none⟩), .int .i64 x.kind, .int .u8 x.kind, .slice (some ⟨w_0.heap.size, 0, none⟩) 1 1, u_1, u_1, .pointer (some ⟨gx, 1, none⟩), .string x.key, vb2, u_3, .pointer (some ⟨gx, 0, none⟩), .int .i64 x.kind, .bool false, .bool false, u39, u40, u41, u42, u43, .pointer (some ⟨gx, 0, none⟩), .int .i64 x.kind, .bool true, u_3, .pointer (some ⟨gx, 3, none⟩), .int .i64 x.n, .int .u64 (zig x.n : Int), u_4, .pointer (some ⟨gx, 0, none⟩), .int .i64 x.kind, .bool true, .bool true, u_4, .pointer (some ⟨gx, 4, none⟩), .pointer (some ⟨gx, 36, none⟩), .int .i64 x.op, .int .u64 (on : Int), u_5, .pointer (some ⟨gx, 4, none⟩), .pointer (some ⟨gx, 36, none⟩), .int .i64 x.op, .bool false, u66, u67, u68, u69, u70, rfl, by omega, by rw [hE]; exact H5.out⟩, ?_⟩
            simp only [intOf]; show l.length - ((t : Int) + 1).toNat < l.length - ((t : Int)).toNat; omega
          · skip
            refine WL.val (by kernel_rfl) (.bool true) (by go_simp) ?_
            simp only [Act.put, List.setIfInBounds_toArray, List.set_cons_zero, List.set_cons_succ]
            refine WL.nil ?_
            refine hK29 _ _ ?_
            refine wp_cond_true rfl ?_
            refine wp_region_list (WL.out ?_)
            refine WL.val (by kernel_rfl) (u_5) (by go_simp) ?_
            simp only [Act.put, List.setIfInBounds_toArray, List.set_cons_zero, List.set_cons_succ]
            refine WL.val (by kernel_rfl) (.pointer (some ⟨gx, 4, none⟩)) (by go_simp) ?_
            simp only [Act.put, List.setIfInBounds_toArray, List.set_cons_zero, List.set_cons_succ]
            refine WL.val (by kernel_rfl) (.pointer (some ⟨gx, 4, none⟩)) (by go_simp) ?_
            simp only [Act.put, List.setIfInBounds_toArray, List.set_cons_zero, List.set_cons_succ]
            refine WL.midA (by kernel_rfl) 55 (.tmp 68) rfl gx 4 rfl (bytesA 32 (hof x.node)) _ (opA_nodes X5.out) Try.underlying55 rfl (Try.size55B _) ?_
            simp only [Act.put, List.setIfInBounds_toArray, List.set_cons_zero, List.set_cons_succ]
            refine WL.callF (by kernel_rfl) 46 _ _ rfl Try.in46 #[u_5, .agg (bytesA 32 (hof x.node))] (by simp [Act.eval]) ?_
            refine (rhash_any u_5 (L1 ++ [x.kind] ++ bform (lst x.key) ++ numL (zig x.n) ++ numL on) (hof x.node) w_5 H5.out.own (by have := Hbd.out; unfold tl at this; rw [if_neg (show ¬ txt x.kind = true by rw [q38]; decide), if_pos h11_2, if_pos q55, if_neg h16_3] at this; rw [Hon.out] at this; simp only [hl_len, List.length_append, List.length_cons, List.length_nil] at this ⊢; omega)).mono ?_
            rintro e w_6 hp
            obtain ⟨u_6, rfl, hq1, hq2, hq3⟩ := hp
            refine ⟨_, rfl, ?_⟩
            have H6 := Keep.mk (H5.out.step hq1 hq2 hq3)
            have X6 := Keep.mk (own_keeps H5.out.own X5.out (by decide) hq3)
            clear hq1 hq2 hq3
            clear c5_0 c5_1 c5_2 c5_3 c5_36
            have c6_0 := X6.out.c 0 (opA_0 x)
            have c6_1 := X6.out.c 1 (opA_1 x)
            have c6_2 := X6.out.c 2 (opA_2 x)
            have c6_3 := X6.out.c 3 (opA_3 x)
            have c6_36 := X6.out.c 36 (opA_36 x)
            simp only [Act.put, List.setIfInBounds_toArray, List.set_cons_zero, List.set_cons_succ]
            refine WL.val (by kernel_rfl) (u_6) (by go_simp) ?_
            simp only [Act.put, List.setIfInBounds_toArray, List.set_cons_zero, List.set_cons_succ]
            refine WL.nil ?_
            refine hK7 _ _ ?_
            refine wp_region_list (WL.out ?_)
            refine WL.val (by kernel_rfl) (.int .i64 (t : Int)) (by go_simp) ?_
            simp only [Act.put, List.setIfInBounds_toArray, List.set_cons_zero, List.set_cons_succ]
            refine WL.val (by kernel_rfl) (.int .i64 ((t : Int) + 1)) (by go_simp) ?_
            simp only [Act.put, List.setIfInBounds_toArray, List.set_cons_zero, List.set_cons_succ]
            refine WL.val (by kernel_rfl) (.int .i64 ((t : Int) + 1)) (by go_simp) ?_
            simp only [Act.put, List.setIfInBounds_toArray, List.set_cons_zero, List.set_cons_succ]
            refine WL.nil ?_
            have hE : L0 ++ numL l.length ++ (l.take (t + 1)).flatMap oneF = L1 ++ [x.kind] ++ bform (lst x.key) ++ numL (zig x.n) ++ numL on ++ hl 32 (hof x.node) := by
              rw [HFull.out]; unfold tl
              rw [if_neg (show ¬ txt x.kind = true by rw [q38]; decide), if_pos h11_2, if_pos q55, if_neg h16_3]
              rw [Hon.out]
              simp
            refine ⟨⟨t + 1, u_6, .pointer (some ⟨gx, 0, none⟩), .bool false, .bool true, .int .i64 (t : Int), .slice va l.length vc, .int .i64 (l.length : Int), .bool true, .int .i64 (t : Int), .int .i64 ((t : Int) + 1), .slice va l.length vc, .int .i64 (t : Int), .pointer (some ⟨gL, ofL + t * 37, none⟩), .agg (opA x), u0, .pointer (some ⟨gx, 0, none⟩), .int .i64 x.kind, .int .u8 x.kind, .slice (some ⟨w_0.heap.size, 0, none⟩) 1 1, u_1, u_1, .pointer (some ⟨gx, 1, none⟩), .string x.key, vb2, u_3, .pointer (some ⟨gx, 0, none⟩), .int .i64 x.kind, .bool false, .bool false, u39, u40, u41, u42, u43, .pointer (some ⟨gx, 0, none⟩), .int .i64 x.kind, .bool true, u_3, .pointer (some ⟨gx, 3, none⟩), .int .i64 x.n, .int .u64 (zig x.n : Int), u_4, .pointer (some ⟨gx, 0, none⟩), .int .i64 x.kind, .bool true, .bool true, u_4, .pointer (some ⟨gx, 4, none⟩), .pointer (some ⟨gx, 36, none⟩), .int .i64 x.op, .int .u64 (on : Int), u_5, .pointer (some ⟨gx, 4, none⟩), .pointer (some ⟨gx, 36, none⟩), .int .i64 x.op, .bool true, u_5, .pointer (some ⟨gx, 4, none⟩), .pointer (some ⟨gx, 4, none⟩), .agg (bytesA 32 (hof x.node)), u_6, rfl, by omega, by rw [hE]; exact H6.out⟩, ?_⟩
            simp only [intOf]; show l.length - ((t : Int) + 1).toNat < l.length - ((t : Int)).toNat; omega
        · have q55 := h14_0
          rw [h14_0]
          refine WL.val (by kernel_rfl) (.bool false) (by go_simp) ?_
          simp only [Act.put, List.setIfInBounds_toArray, List.set_cons_zero, List.set_cons_succ]
          refine WL.nil ?_
          refine hK27 _ _ ?_
          refine wp_cond_false rfl ?_
          refine wp_skip ?_
          refine hK7 _ _ ?_
          refine wp_region_list (WL.out ?_)
          refine WL.val (by kernel_rfl) (.int .i64 (t : Int)) (by go_simp) ?_
          simp only [Act.put, List.setIfInBounds_toArray, List.set_cons_zero, List.set_cons_succ]
          refine WL.val (by kernel_rfl) (.int .i64 ((t : Int) + 1)) (by go_simp) ?_
          simp only [Act.put, List.setIfInBounds_toArray, List.set_cons_zero, List.set_cons_succ]
          refine WL.val (by kernel_rfl) (.int .i64 ((t : Int) + 1)) (by go_simp) ?_
          simp only [Act.put, List.setIfInBounds_toArray, List.set_cons_zero, List.set_cons_succ]
          refine WL.nil ?_
          have hE : L0 ++ numL l.length ++ (l.take (t + 1)).flatMap oneF = L1 ++ [x.kind] ++ bform (lst x.key) ++ numL (zig x.n) := by
            rw [HFull.out]; unfold tl
            rw [if_neg (show ¬ txt x.kind = true by rw [q38]; decide), if_pos h11_2, if_neg (show ¬ hat x.kind = true by rw [q55]; decide)]
            simp
          refine ⟨⟨t + 1, u_4, .pointer (some ⟨gx, 0, none⟩), .bool false, .bool false, .int .i64 (t : Int), .slice va l.length vc, .int .i64 (l.length : Int), .bool true, .int .i64 (t : Int), .int .i64 ((t : Int) + 1), .slice va l.length vc, .int .i64 (t : Int), .pointer (some ⟨gL, ofL + t * 37, none⟩), .agg (opA x), u0, .pointer (some ⟨gx, 0, none⟩), .int .i64 x.kind, .int .u8 x.kind, .slice (some ⟨w_0.heap.size, 0, none⟩) 1 1, u_1, u_1, .pointer (some ⟨gx, 1, none⟩), .string x.key, vb2, u_3, .pointer (some ⟨gx, 0, none⟩), .int .i64 x.kind, .bool false, .bool false, u39, u40, u41, u42, u43, .pointer (some ⟨gx, 0, none⟩), .int .i64 x.kind, .bool true, u_3, .pointer (some ⟨gx, 3, none⟩), .int .i64 x.n, .int .u64 (zig x.n : Int), u_4, .pointer (some ⟨gx, 0, none⟩), .int .i64 x.kind, .bool false, .bool false, u56, u57, u58, u59, u60, u61, u62, u63, u64, u65, u66, u67, u68, u69, u70, rfl, by omega, by rw [hE]; exact H4.out⟩, ?_⟩
          simp only [intOf]; show l.length - ((t : Int) + 1).toNat < l.length - ((t : Int)).toNat; omega
      · skip
        refine WL.val (by kernel_rfl) (.bool false) (by go_simp) ?_
        simp only [Act.put, List.setIfInBounds_toArray, List.set_cons_zero, List.set_cons_succ]
        refine WL.nil ?_
        refine hK25 _ _ ?_
        refine wp_cond_false rfl ?_
        refine wp_skip ?_
        refine hK24 _ _ ?_
        refine wp_seq_k fun K30 hK30 => ?_
        refine wp_region_list (WL.out ?_)
        refine WL.val (by kernel_rfl) (.pointer (some ⟨gx, 0, none⟩)) (by go_simp) ?_
        simp only [Act.put, List.setIfInBounds_toArray, List.set_cons_zero, List.set_cons_succ]
        refine WL.val (by kernel_rfl) (.int .i64 x.kind) (by go_simp) ?_
        simp only [Act.put, List.setIfInBounds_toArray, List.set_cons_zero, List.set_cons_succ]
        refine WL.callF (by kernel_rfl) 45 _ _ rfl Try.in45 #[.int .i64 x.kind] (by simp [Act.eval]) ?_
        refine (hasAt_any x.kind w_3).mono ?_
        rintro e w_y ⟨rfl, hwy⟩
        rw [hwy]
        clear hwy w_y
        refine ⟨_, rfl, ?_⟩
        simp only [Act.put, List.setIfInBounds_toArray, List.set_cons_zero, List.set_cons_succ]
        refine WL.val (by kernel_rfl) (.bool (hat x.kind)) (by go_simp) ?_
        simp only [Act.put, List.setIfInBounds_toArray, List.set_cons_zero, List.set_cons_succ]
        refine WL.nil ?_
        refine hK30 _ _ ?_
        refine wp_seq_k fun K31 hK31 => ?_
        refine wp_region_list (WL.out ?_)
        rcases Bool.eq_false_or_eq_true (hat x.kind) with h14_0 | h14_0
        · have q55 := h14_0
          rw [h14_0]
          refine WL.val (by kernel_rfl) (.bool true) (by go_simp) ?_
          simp only [Act.put, List.setIfInBounds_toArray, List.set_cons_zero, List.set_cons_succ]
          refine WL.nil ?_
          refine hK31 _ _ ?_
          refine wp_cond_true rfl ?_
          refine wp_seq_k fun K32 hK32 => ?_
          refine wp_region_list (WL.out ?_)
          refine WL.val (by kernel_rfl) (u_3) (by go_simp) ?_
          simp only [Act.put, List.setIfInBounds_toArray, List.set_cons_zero, List.set_cons_succ]
          refine WL.val (by kernel_rfl) (.pointer (some ⟨gx, 4, none⟩)) (by go_simp) ?_
          simp only [Act.put, List.setIfInBounds_toArray, List.set_cons_zero, List.set_cons_succ]
          refine WL.val (by kernel_rfl) (.pointer (some ⟨gx, 36, none⟩)) (by go_simp) ?_
          simp only [Act.put, List.setIfInBounds_toArray, List.set_cons_zero, List.set_cons_succ]
          refine WL.val (by kernel_rfl) (.int .i64 x.op) (by go_simp) ?_
          simp only [Act.put, List.setIfInBounds_toArray, List.set_cons_zero, List.set_cons_succ]
          obtain ⟨on, hon⟩ : ∃ on : Nat, Keep (x.op = (on : Int)) := ⟨x.op.toNat, ⟨by have := (HHat.out q55).1; omega⟩⟩
          have hwo : IntKind.u64.wrap x.op = (on : Int) := by rw [hon.out, IntKind.wrap_u64]; have := (HHat.out q55).2; have := hon.out; omega
          have Hon : Keep (x.op.toNat = on) := ⟨by rw [hon.out, Int.toNat_natCast]⟩
          refine WL.val (by kernel_rfl) (.int .u64 (on : Int)) (by go_simp) ?_
          simp only [Act.put, List.setIfInBounds_toArray, List.set_cons_zero, List.set_cons_succ]
          refine WL.callF (by kernel_rfl) 41 _ _ rfl Try.in41 #[u_3, .int .u64 (on : Int)] (by simp [Act.eval]) ?_
          refine (rnum_any u_3 (L1 ++ [x.kind] ++ bform (lst x.key)) on w_3 H3.out.own (by have := (HHat.out q55).2; have := hon.out; omega) (by have := Hbd.out; unfold tl at this; rw [if_neg (show ¬ txt x.kind = true by rw [q38]; decide), if_neg h11_2, if_pos q55] at this; rw [Hon.out] at this; simp only [List.length_append, List.length_cons, List.length_nil] at this ⊢; omega)).mono ?_
          rintro e w_4 hp
          obtain ⟨u_4, rfl, hq1, hq2, hq3⟩ := hp
          refine ⟨_, rfl, ?_⟩
          have H4 := Keep.mk (H3.out.step hq1 hq2 hq3)
          have X4 := Keep.mk (own_keeps H3.out.own X3.out (by decide) hq3)
          clear hq1 hq2 hq3
          clear c3_0 c3_1 c3_2 c3_3 c3_36
          have c4_0 := X4.out.c 0 (opA_0 x)
          have c4_1 := X4.out.c 1 (opA_1 x)
          have c4_2 := X4.out.c 2 (opA_2 x)
          have c4_3 := X4.out.c 3 (opA_3 x)
          have c4_36 := X4.out.c 36 (opA_36 x)
          simp only [Act.put, List.setIfInBounds_toArray, List.set_cons_zero, List.set_cons_succ]
          refine WL.val (by kernel_rfl) (u_4) (by go_simp) ?_
          simp only [Act.put, List.setIfInBounds_toArray, List.set_cons_zero, List.set_cons_succ]
          refine WL.nil ?_
          refine hK32 _ _ ?_
          refine wp_seq_k fun K33 hK33 => ?_
          refine wp_region_list (WL.out ?_)
          refine WL.val (by kernel_rfl) (.pointer (some ⟨gx, 4, none⟩)) (by go_simp) ?_
          simp only [Act.put, List.setIfInBounds_toArray, List.set_cons_zero, List.set_cons_succ]
          refine WL.val (by kernel_rfl) (.pointer (some ⟨gx, 36, none⟩)) (by go_simp) ?_
          simp only [Act.put, List.setIfInBounds_toArray, List.set_cons_zero, List.set_cons_succ]
          refine WL.val (by kernel_rfl) (.int .i64 x.op) (by go_simp) ?_
          simp only [Act.put, List.setIfInBounds_toArray, List.set_cons_zero, List.set_cons_succ]
          by_cases h16_3 : x.op = 0
          · skip
            refine WL.val (by kernel_rfl) (.bool false) (by go_simp) ?_
            simp only [Act.put, List.setIfInBounds_toArray, List.set_cons_zero, List.set_cons_succ]
            refine WL.nil ?_
            refine hK33 _ _ ?_
            refine wp_cond_false rfl ?_
            refine wp_skip ?_
            refine hK7 _ _ ?_
            refine wp_region_list (WL.out ?_)
            refine WL.val (by kernel_rfl) (.int .i64 (t : Int)) (by go_simp) ?_
            simp only [Act.put, List.setIfInBounds_toArray, List.set_cons_zero, List.set_cons_succ]
            refine WL.val (by kernel_rfl) (.int .i64 ((t : Int) + 1)) (by go_simp) ?_
            simp only [Act.put, List.setIfInBounds_toArray, List.set_cons_zero, List.set_cons_succ]
            refine WL.val (by kernel_rfl) (.int .i64 ((t : Int) + 1)) (by go_simp) ?_
            simp only [Act.put, List.setIfInBounds_toArray, List.set_cons_zero, List.set_cons_succ]
            refine WL.nil ?_
            have hE : L0 ++ numL l.length ++ (l.take (t + 1)).flatMap oneF = L1 ++ [x.kind] ++ bform (lst x.key) ++ numL on := by
              rw [HFull.out]; unfold tl
              rw [if_neg (show ¬ txt x.kind = true by rw [q38]; decide), if_neg h11_2, if_pos q55, if_pos h16_3]
              rw [Hon.out]
              simp
            refine ⟨⟨t + 1, u_4, .pointer (some ⟨gx, 0, none⟩), .bool false, .bool true, .int .i64 (t : Int), .slice va l.length vc, .int .i64 (l.length : Int), .bool true, .int .i64 (t : Int), .int .i64 ((t : Int) + 1), .slice va l.length vc, .int .i64 (t : Int), .pointer (some ⟨gL, ofL + t * 37, none⟩), .agg (opA x), u0, .pointer (some ⟨gx, 0, none⟩), .int .i64 x.kind, .int .u8 x.kind, .slice (some ⟨w_0.heap.size, 0, none⟩) 1 1, u_1, u_1, .pointer (some ⟨gx, 1, none⟩), .string x.key, vb2, u_3, .pointer (some ⟨gx, 0, none⟩), .int .i64 x.kind, .bool false, .bool false, u39, u40, u41, u42, u43, .pointer (some ⟨gx, 0, none⟩), .int .i64 x.kind, .bool false, u47, u48, u49, u50, u51, .pointer (some ⟨gx, 0, none⟩), .int .i64 x.kind, .bool true, .bool true, u_3, .pointer (some ⟨gx, 4, none⟩), .pointer (some ⟨gx, 36, none⟩), .int .i64 x.op, .int .u64 (on : Int), u_4, .pointer (some ⟨gx, 4, none⟩), .pointer (some ⟨gx, 36, none⟩), .int .i64 x.op, .bool false, u66, u67, u68, u69, u70, rfl, by omega, by rw [hE]; exact H4.out⟩, ?_⟩
            simp only [intOf]; show l.length - ((t : Int) + 1).toNat < l.length - ((t : Int)).toNat; omega
          · skip
            refine WL.val (by kernel_rfl) (.bool true) (by go_simp) ?_
            simp only [Act.put, List.setIfInBounds_toArray, List.set_cons_zero, List.set_cons_succ]
            refine WL.nil ?_
            refine hK33 _ _ ?_
            refine wp_cond_true rfl ?_
            refine wp_region_list (WL.out ?_)
            refine WL.val (by kernel_rfl) (u_4) (by go_simp) ?_
            simp only [Act.put, List.setIfInBounds_toArray, List.set_cons_zero, List.set_cons_succ]
            refine WL.val (by kernel_rfl) (.pointer (some ⟨gx, 4, none⟩)) (by go_simp) ?_
            simp only [Act.put, List.setIfInBounds_toArray, List.set_cons_zero, List.set_cons_succ]
            refine WL.val (by kernel_rfl) (.pointer (some ⟨gx, 4, none⟩)) (by go_simp) ?_
            simp only [Act.put, List.setIfInBounds_toArray, List.set_cons_zero, List.set_cons_succ]
            refine WL.midA (by kernel_rfl) 55 (.tmp 68) rfl gx 4 rfl (bytesA 32 (hof x.node)) _ (opA_nodes X4.out) Try.underlying55 rfl (Try.size55B _) ?_
            simp only [Act.put, List.setIfInBounds_toArray, List.set_cons_zero, List.set_cons_succ]
            refine WL.callF (by kernel_rfl) 46 _ _ rfl Try.in46 #[u_4, .agg (bytesA 32 (hof x.node))] (by simp [Act.eval]) ?_
            refine (rhash_any u_4 (L1 ++ [x.kind] ++ bform (lst x.key) ++ numL on) (hof x.node) w_4 H4.out.own (by have := Hbd.out; unfold tl at this; rw [if_neg (show ¬ txt x.kind = true by rw [q38]; decide), if_neg h11_2, if_pos q55, if_neg h16_3] at this; rw [Hon.out] at this; simp only [hl_len, List.length_append, List.length_cons, List.length_nil] at this ⊢; omega)).mono ?_
            rintro e w_5 hp
            obtain ⟨u_5, rfl, hq1, hq2, hq3⟩ := hp
            refine ⟨_, rfl, ?_⟩
            have H5 := Keep.mk (H4.out.step hq1 hq2 hq3)
            have X5 := Keep.mk (own_keeps H4.out.own X4.out (by decide) hq3)
            clear hq1 hq2 hq3
            clear c4_0 c4_1 c4_2 c4_3 c4_36
            have c5_0 := X5.out.c 0 (opA_0 x)
            have c5_1 := X5.out.c 1 (opA_1 x)
            have c5_2 := X5.out.c 2 (opA_2 x)
            have c5_3 := X5.out.c 3 (opA_3 x)
            have c5_36 := X5.out.c 36 (opA_36 x)
            simp only [Act.put, List.setIfInBounds_toArray, List.set_cons_zero, List.set_cons_succ]
            refine WL.val (by kernel_rfl) (u_5) (by go_simp) ?_
            simp only [Act.put, List.setIfInBounds_toArray, List.set_cons_zero, List.set_cons_succ]
            refine WL.nil ?_
            refine hK7 _ _ ?_
            refine wp_region_list (WL.out ?_)
            refine WL.val (by kernel_rfl) (.int .i64 (t : Int)) (by go_simp) ?_
            simp only [Act.put, List.setIfInBounds_toArray, List.set_cons_zero, List.set_cons_succ]
            refine WL.val (by kernel_rfl) (.int .i64 ((t : Int) + 1)) (by go_simp) ?_
            simp only [Act.put, List.setIfInBounds_toArray, List.set_cons_zero, List.set_cons_succ]
            refine WL.val (by kernel_rfl) (.int .i64 ((t : Int) + 1)) (by go_simp) ?_
            simp only [Act.put, List.setIfInBounds_toArray, List.set_cons_zero, List.set_cons_succ]
            refine WL.nil ?_
            have hE : L0 ++ numL l.length ++ (l.take (t + 1)).flatMap oneF = L1 ++ [x.kind] ++ bform (lst x.key) ++ numL on ++ hl 32 (hof x.node) := by
              rw [HFull.out]; unfold tl
              rw [if_neg (show ¬ txt x.kind = true by rw [q38]; decide), if_neg h11_2, if_pos q55, if_neg h16_3]
              rw [Hon.out]
              simp
            refine ⟨⟨t + 1, u_5, .pointer (some ⟨gx, 0, none⟩), .bool false, .bool true, .int .i64 (t : Int), .slice va l.length vc, .int .i64 (l.length : Int), .bool true, .int .i64 (t : Int), .int .i64 ((t : Int) + 1), .slice va l.length vc, .int .i64 (t : Int), .pointer (some ⟨gL, ofL + t * 37, none⟩), .agg (opA x), u0, .pointer (some ⟨gx, 0, none⟩), .int .i64 x.kind, .int .u8 x.kind, .slice (some ⟨w_0.heap.size, 0, none⟩) 1 1, u_1, u_1, .pointer (some ⟨gx, 1, none⟩), .string x.key, vb2, u_3, .pointer (some ⟨gx, 0, none⟩), .int .i64 x.kind, .bool false, .bool false, u39, u40, u41, u42, u43, .pointer (some ⟨gx, 0, none⟩), .int .i64 x.kind, .bool false, u47, u48, u49, u50, u51, .pointer (some ⟨gx, 0, none⟩), .int .i64 x.kind, .bool true, .bool true, u_3, .pointer (some ⟨gx, 4, none⟩), .pointer (some ⟨gx, 36, none⟩), .int .i64 x.op, .int .u64 (on : Int), u_4, .pointer (some ⟨gx, 4, none⟩), .pointer (some ⟨gx, 36, none⟩), .int .i64 x.op, .bool true, u_4, .pointer (some ⟨gx, 4, none⟩), .pointer (some ⟨gx, 4, none⟩), .agg (bytesA 32 (hof x.node)), u_5, rfl, by omega, by rw [hE]; exact H5.out⟩, ?_⟩
            simp only [intOf]; show l.length - ((t : Int) + 1).toNat < l.length - ((t : Int)).toNat; omega
        · have q55 := h14_0
          rw [h14_0]
          refine WL.val (by kernel_rfl) (.bool false) (by go_simp) ?_
          simp only [Act.put, List.setIfInBounds_toArray, List.set_cons_zero, List.set_cons_succ]
          refine WL.nil ?_
          refine hK31 _ _ ?_
          refine wp_cond_false rfl ?_
          refine wp_skip ?_
          refine hK7 _ _ ?_
          refine wp_region_list (WL.out ?_)
          refine WL.val (by kernel_rfl) (.int .i64 (t : Int)) (by go_simp) ?_
          simp only [Act.put, List.setIfInBounds_toArray, List.set_cons_zero, List.set_cons_succ]
          refine WL.val (by kernel_rfl) (.int .i64 ((t : Int) + 1)) (by go_simp) ?_
          simp only [Act.put, List.setIfInBounds_toArray, List.set_cons_zero, List.set_cons_succ]
          refine WL.val (by kernel_rfl) (.int .i64 ((t : Int) + 1)) (by go_simp) ?_
          simp only [Act.put, List.setIfInBounds_toArray, List.set_cons_zero, List.set_cons_succ]
          refine WL.nil ?_
          have hE : L0 ++ numL l.length ++ (l.take (t + 1)).flatMap oneF = L1 ++ [x.kind] ++ bform (lst x.key) := by
            rw [HFull.out]; unfold tl
            rw [if_neg (show ¬ txt x.kind = true by rw [q38]; decide), if_neg h11_2, if_neg (show ¬ hat x.kind = true by rw [q55]; decide)]
            simp
          refine ⟨⟨t + 1, u_3, .pointer (some ⟨gx, 0, none⟩), .bool false, .bool false, .int .i64 (t : Int), .slice va l.length vc, .int .i64 (l.length : Int), .bool true, .int .i64 (t : Int), .int .i64 ((t : Int) + 1), .slice va l.length vc, .int .i64 (t : Int), .pointer (some ⟨gL, ofL + t * 37, none⟩), .agg (opA x), u0, .pointer (some ⟨gx, 0, none⟩), .int .i64 x.kind, .int .u8 x.kind, .slice (some ⟨w_0.heap.size, 0, none⟩) 1 1, u_1, u_1, .pointer (some ⟨gx, 1, none⟩), .string x.key, vb2, u_3, .pointer (some ⟨gx, 0, none⟩), .int .i64 x.kind, .bool false, .bool false, u39, u40, u41, u42, u43, .pointer (some ⟨gx, 0, none⟩), .int .i64 x.kind, .bool false, u47, u48, u49, u50, u51, .pointer (some ⟨gx, 0, none⟩), .int .i64 x.kind, .bool false, .bool false, u56, u57, u58, u59, u60, u61, u62, u63, u64, u65, u66, u67, u68, u69, u70, rfl, by omega, by rw [hE]; exact H3.out⟩, ?_⟩
          simp only [intOf]; show l.length - ((t : Int) + 1).toNat < l.length - ((t : Int)).toNat; omega
  · have hte : Keep (t = l.length) := ⟨by omega⟩
    have htl' : ¬ (t : Int) < (l.length : Int) := by omega
    refine wp_seq_k fun K34 hK34 => ?_
    refine wp_seq_k fun K35 hK35 => ?_
    refine wp_region_list (WL.out ?_)
    refine WL.val (by kernel_rfl) (.int .i64 (t : Int)) (by go_simp) ?_
    simp only [Act.put, List.setIfInBounds_toArray, List.set_cons_zero, List.set_cons_succ]
    refine WL.val (by kernel_rfl) (.slice va l.length vc) (by go_simp) ?_
    simp only [Act.put, List.setIfInBounds_toArray, List.set_cons_zero, List.set_cons_succ]
    refine WL.val (by kernel_rfl) (.int .i64 (l.length : Int)) (by go_simp) ?_
    simp only [Act.put, List.setIfInBounds_toArray, List.set_cons_zero, List.set_cons_succ]
    refine WL.val (by kernel_rfl) (.bool false) (by go_simp) ?_
    simp only [Act.put, List.setIfInBounds_toArray, List.set_cons_zero, List.set_cons_succ]
    refine WL.nil ?_
    refine hK35 _ _ ?_
    refine wp_cond_false rfl ?_
    refine wp_exit ?_
    refine hK3 _ _ ?_
    refine wp_seq_k fun K36 hK36 => ?_
    refine wp_region_list (WL.out ?_)
    refine WL.val (by kernel_rfl) (u0) (by go_simp) ?_
    simp only [Act.put, List.setIfInBounds_toArray, List.set_cons_zero, List.set_cons_succ]
    refine WL.val (by kernel_rfl) (u0) (by go_simp) ?_
    simp only [Act.put, List.setIfInBounds_toArray, List.set_cons_zero, List.set_cons_succ]
    refine WL.nil ?_
    refine hK36 _ _ ?_
    refine wp_ret ?_
    go_ret
    rw [hte.out, List.take_length, List.append_assoc] at hS
    exact ⟨_, rfl, hS.own, hS.mv, hS.gr⟩

end Go.Proofs.Ytkjjlfpghhefcab
namespace Go.Proofs.Ytkjjlfpghhefcab
open Go.RowKit
set_option linter.unusedSimpArgs false

theorem wpAnyH_weaken {P : Program} {md : Region.Mode} {ops : Array Oper} {Q : Exit → Act → World → Prop} {S S' : World → Prop} (h : ∀ w, S' w → S w) : ∀ (fuel : Nat) (listed : Array Bool) (a : Act) (w : World), wpAnyH P md ops Q S' fuel listed a w → wpAnyH P md ops Q S fuel listed a w
  | 0, _, _, _, h1 => h1
  | fuel + 1, _, _, _, h1 => ⟨h1.1, fun i hi => wpOp_mono (fun a' w' h2 => ⟨h w' h2.1, wpAnyH_weaken h fuel _ a' w' h2.2⟩) (h1.2 i hi)⟩
/-- How long the form of operations that may be is. -/
theorem bform_small (s : ByteArray) (h : s.size ≤ 65536) : (bform (lst s)).length ≤ 65546 := by
  unfold bform
  rw [List.length_append, lst_len]
  have := numL_len s.size
  omega
theorem one_small (x : OpV) (h1 : x.key.size ≤ 65536) (h2 : x.text.size ≤ 65536) (h : hasI x.kind ≠ []) : (oneF x).length ≤ 131200 := by
  rw [oneF_eq x h]
  unfold tl
  have a1 := bform_small x.key h1
  have a2 := bform_small x.text h2
  have a3 := numL_len (zig x.n)
  have a4 := numL_len x.op.toNat
  have a5 := hl_len 32 (hof x.node)
  simp only [List.length_append, List.length_cons, List.length_nil]
  split <;> split <;> split <;> (try split) <;> simp only [List.length_append, List.length_nil] at * <;> omega
theorem fm_small (l : List OpV) (h : ∀ x ∈ l, (oneF x).length ≤ 131200) : (l.flatMap oneF).length ≤ l.length * 131200 := by
  induction l with
  | nil => simp
  | cons x l ih =>
    rw [List.flatMap_cons, List.length_append, List.length_cons]
    have := h x (by simp)
    have := ih (fun y hy => h y (by simp [hy]))
    omega
theorem form_small (l : List OpV) (h : (chk l).1 = 0) : (formL l).length ≤ 134400000 := by
  obtain ⟨h1, h2⟩ := chk_ok h
  have h3 := fm_small l (fun x hx => by
    obtain ⟨i, hi⟩ := List.getElem?_of_mem hx
    have := wrongV_ok (h2 i x hi)
    exact one_small x this.2.1 this.2.2.1 this.1)
  unfold formL
  rw [List.length_append]
  have := numL_len l.length
  omega
theorem wp_appW {Q : Exit → Act → World → Prop} {o : Oper} {a : Act} {w : World} {K : Act → World → Prop} (s x : Operand)
    (ho : o.op = .call { callee := .builtin .append, args := #[s, x], argTypes := #[22, 22] }) (v vx : Value) (l m : List Int)
    (hs : a.eval s = v) (hx : a.eval x = vx) (hown : Own w v l) (hrow : RowAt w vx m) (hb : l.length + m.length ≤ 200000000000000)
    (h : ∀ v' w', AppPost w v (l ++ m) v' w' → K (a.put o.dst v') w') : o.wp Try.prog a w K Q := by
  obtain ⟨v', w', hr, h2⟩ := run_app_row w o.type v vx l m hown hrow hb
  unfold Oper.wp execOp
  simp only [ho, resolve, invoke, builtin, Sem.run_bind, Sem.run_pure, Result.andThen_ok, List.map_toArray, List.map_cons, List.map_nil, hs, hx, hr]
  exact h v' w' h2
theorem conv_drew {v : Value} {l : List Int} {w : World} (h : RowAt w v l) : RowAt w.drew v l := h
theorem wp_bs {P : Program} {o : Oper} {a : Act} {w : World} {K : Act → World → Prop} {Q : Exit → Act → World → Prop} (t : TypeId) (n : Nat) (parts : Array (Nat × Operand)) (ho : o.op = .buildSlice t n parts)
    (vs : Array (Nat × Value)) (hv : (parts.map fun (i, x) => (i, a.eval x)) = vs) (v : Value) (w' : World) (hrun : (Instr.buildSlice t n vs).run P w = .ok v w') (h : K (a.put o.dst v) w') : o.wp P a w K Q := by
  unfold Oper.wp execOp
  simp only [ho, hv, Sem.run_bind, hrun, Result.andThen_ok]
  exact h
end Go.Proofs.Ytkjjlfpghhefcab
namespace Go.Proofs.Ytkjjlfpghhefcab
open Go.RowKit
set_option linter.unusedSimpArgs false
set_option linter.unusedVariables false

theorem flat_byts {α : Type} (f : α → List Int) : ∀ l : List α, (∀ x ∈ l, Byts (f x)) → Byts (l.flatMap f)
  | [], _ => Byts.nil
  | x :: l, h => by rw [List.flatMap_cons]; exact (h x (by simp)).app (flat_byts f l fun y hy => h y (by simp [hy]))
theorem bform_byts (s : ByteArray) (h : s.size ≤ 65536) : Byts (bform (lst s)) := (numL_byts _ (by rw [lst_len]; omega)).app (lst_byts s)
theorem one_byts {ah : List OpV} {x : OpV} (hal : ah.length ≤ 1024) (hx : OpOk x) (hw : wrongV ah x = 0) : Byts (oneF x) := by
  obtain ⟨h1, h2, h3, h4, h5⟩ := wrongV_ok hw
  have hk := hasI_mem h1
  have hop : 3 ∈ hasI x.kind → x.op.toNat ≤ 1024 := fun h => by have := mayAt_op hal (h5 (hasI_three h)); omega
  have hp : ∀ i ∈ hasI x.kind, Byts (putF i x) := fun i hi => by
    unfold putF
    split
    · exact bform_byts _ h2
    split
    · exact bform_byts _ h3
    split
    · exact numL_byts _ (zig_lt _ hx.n1 hx.n2)
    · rename_i e1 e2 e3
      have h3' : i = 3 := by have := hasI_lt x.kind i hi; omega
      subst h3'
      refine (numL_byts _ (by have := hop hi; omega)).app ?_
      split
      · exact Byts.nil
      · rw [hl_hof _ hx.node]; exact hx.byts
  refine Byts.app (a := [x.kind]) (Byts.one ?_) (flat_byts _ _ hp)
  simp only [List.mem_cons, List.not_mem_nil, or_false] at hk
  omega
theorem form_byts {l : List OpV} (hc : (chk l).1 = 0) (hok : ∀ x ∈ l, OpOk x) : Byts (formL l) := by
  obtain ⟨h1, h2⟩ := chk_ok hc
  refine (numL_byts _ (by omega)).app (flat_byts _ _ fun x hx => ?_)
  obtain ⟨i, hi⟩ := List.getElem?_of_mem hx
  exact one_byts (ah := l.take i) (by rw [List.length_take]; omega) (hok x hx) (h2 i x hi)
set_option maxRecDepth 8000 in
set_option maxHeartbeats 4000000 in
theorem back_any (vl va vb : Value) (l : List OpV) (A B : List Int) (w : World) (hL : OpsAt w vl l) (hok : ∀ x ∈ l, OpOk x) (hll : l.length ≤ 4398046511104) (hlt : ∀ k, vl.ownBlock = some k → k < w.heap.size)
    (hA : RowAt w va A) (hBA : Byts A) (hlA : A.length ≤ 1048576) (hB : RowAt w vb B) (hBB : Byts B) (hlB : B.length ≤ 1048576) : Calls Try.prog 4 #[vl, va, vb] w fun e w' => e = .returned (.bool true) ∧ Below w.heap.size w w' := by
  obtain ⟨la, lc, rfl⟩ := hL.form
  obtain ⟨aa, acp, rfl⟩ := row_form hA
  obtain ⟨ba, bc, rfl⟩ := row_form hB
  have HL := Keep.mk hL
  have Hok := Keep.mk hok
  have Hll := Keep.mk hll
  have Hlt := Keep.mk hlt
  have HA := Keep.mk hA
  have HByA := Keep.mk hBA
  have HlA := Keep.mk hlA
  have HB := Keep.mk hB
  have HByB := Keep.mk hBB
  have HlB := Keep.mk hlB
  clear hL hok hll hlt hA hBA hlA hB hBB hlB
  go_enter Try.func4, Try.ntmps4
  refine wp_seq_k fun K1 hK1 => ?_
  refine wp_region_list (WL.out ?_)
  refine WL.val (by kernel_rfl) (.bool false) (by go_simp) ?_
  simp only [Act.put, List.setIfInBounds_toArray, List.set_cons_zero, List.set_cons_succ]
  refine WL.nil ?_
  refine hK1 _ _ ?_
  refine wp_seq_k fun K2 hK2 => ?_
  refine wp_region_list (WL.out ?_)
  refine WL.callF (by kernel_rfl) 18 _ _ rfl Try.in18 #[] (by simp) ?_
  refine (newOut_any w).mono ?_
  rintro e w1 ⟨rfl, hw1⟩
  refine ⟨_, rfl, ?_⟩
  rw [hw1]
  clear hw1 w1
  have HO1 : Keep (OutAt (w.alloc (.cells #[.slice none 0 0] 87)) w.heap.size (.slice none 0 0) []) := ⟨outAt_new w⟩
  have B1 : Keep (Below w.heap.size w (w.alloc (.cells #[.slice none 0 0] 87))) := ⟨below_new w _⟩
  generalize w.alloc (.cells #[.slice none 0 0] 87) = w1 at *
  obtain ⟨q, hq⟩ : ∃ q, w.heap.size = q := ⟨_, rfl⟩
  have Hq := Keep.mk hq
  rw [hq] at HO1 ⊢
  clear hq
  simp only [Act.put, List.setIfInBounds_toArray, List.set_cons_zero, List.set_cons_succ]
  refine WL.val (by kernel_rfl) (.pointer (some ⟨q, 0, none⟩)) (by go_simp) ?_
  simp only [Act.put, List.setIfInBounds_toArray, List.set_cons_zero, List.set_cons_succ]
  refine WL.nil ?_
  refine hK2 _ _ ?_
  refine wp_seq_k fun K3 hK3 => ?_
  refine wp_seq_k fun K4 hK4 => ?_
  refine wp_region_list (WL.out ?_)
  refine WL.val (by kernel_rfl) (.pointer (some ⟨q, 0, none⟩)) (by go_simp) ?_
  simp only [Act.put, List.setIfInBounds_toArray, List.set_cons_zero, List.set_cons_succ]
  refine WL.val (by kernel_rfl) (.bool false) (by go_simp) ?_
  simp only [Act.put, List.setIfInBounds_toArray, List.set_cons_zero, List.set_cons_succ]
  refine WL.nil ?_
  refine hK4 _ _ ?_
  refine wp_cond_false rfl ?_
  refine wp_skip ?_
  refine hK3 _ _ ?_
  refine wp_seq_k fun K5 hK5 => ?_
  refine wp_region_list (WL.out ?_)
  refine WL.val (by kernel_rfl) (.pointer (some ⟨q, 0, none⟩)) (by go_simp) ?_
  simp only [Act.put, List.setIfInBounds_toArray, List.set_cons_zero, List.set_cons_succ]
  refine WL.val (by kernel_rfl) (.slice aa A.length acp) (by go_simp) ?_
  simp only [Act.put, List.setIfInBounds_toArray, List.set_cons_zero, List.set_cons_succ]
  refine WL.callF (by kernel_rfl) 19 _ _ rfl Try.in19 #[ptr q, .slice aa A.length acp] (by simp [Act.eval]) ?_
  refine (oraw_any q (.slice none 0 0) _ [] A w1 HO1.out (HA.out.below B1.out) (by have := HlA.out; simp only [List.nil_append]; omega)).mono ?_
  rintro e w2 ⟨rfl, v2, h1, h2, h3⟩
  refine ⟨_, rfl, ?_⟩
  rw [List.nil_append] at h1
  have HO2 := Keep.mk h1
  have Hv2 : Keep (∀ k, v2.ownBlock = some k → w.heap.size ≤ k) := ⟨fun k hk => by
    rcases h2 with e | ⟨j, e1, e2⟩
    · rw [e] at hk; simp [Value.ownBlock] at hk
    · rw [e1] at hk; cases hk; exact Nat.le_trans B1.out.size e2⟩
  have B2 : Keep (Below w.heap.size w w2) := ⟨B1.out.trans (h3.to_below (fun k hk e => by rcases e with rfl | e; have := Hq.out; omega; simp [Value.ownBlock] at e) B1.out.size)⟩
  clear h1 h2 h3
  simp only [Act.put, List.setIfInBounds_toArray, List.set_cons_zero, List.set_cons_succ]
  refine WL.nil ?_
  refine hK5 _ _ ?_
  refine wp_seq_k fun K6 hK6 => ?_
  refine wp_region_list (WL.out ?_)
  refine WL.val (by kernel_rfl) (.pointer (some ⟨q, 0, none⟩)) (by go_simp) ?_
  simp only [Act.put, List.setIfInBounds_toArray, List.set_cons_zero, List.set_cons_succ]
  refine WL.val (by kernel_rfl) (.slice la l.length lc) (by go_simp) ?_
  simp only [Act.put, List.setIfInBounds_toArray, List.set_cons_zero, List.set_cons_succ]
  refine WL.callF (by kernel_rfl) 20 _ _ rfl Try.in20 #[ptr q, .slice la l.length lc] (by simp [Act.eval]) ?_
  refine (put_any q v2 A _ l w2 HO2.out (HL.out.below B2.out) Hok.out Hll.out (fun k hk e => by
    have h0 := Hlt.out k hk
    rcases e with rfl | e
    · have := Hq.out; omega
    · have := Hv2.out k e; omega) (fun h => by have := form_small l h; have := HlA.out; omega)).mono ?_
  rintro e w3 ⟨rfl, v3, h1, h2, h3⟩
  refine ⟨_, rfl, ?_⟩
  have B3 : Keep (Below w.heap.size w w3) := ⟨B2.out.trans (h3.to_below (fun k hk e => by rcases e with rfl | e; have := Hq.out; omega; have := Hv2.out k e; omega) B2.out.size)⟩
  have Hv3 : Keep (∀ k, v3.ownBlock = some k → w.heap.size ≤ k) := ⟨fun k hk => by
    rcases h2 with e | ⟨j, e1, e2⟩
    · rw [e] at hk; exact Hv2.out k hk
    · rw [e1] at hk; cases hk; exact Nat.le_trans B2.out.size e2⟩
  clear h2 h3
  by_cases hE : (chk l).1 = 0
  · rw [if_pos hE] at h1
    rw [hE]
    have HO3 := Keep.mk h1
    have Hch := Keep.mk hE
    clear h1 hE
    have Hfs := Keep.mk (form_small l Hch.out)
    have HByF := Keep.mk (form_byts Hch.out Hok.out)
    obtain ⟨n, hn⟩ : ∃ n, (A ++ formL l).length = n := ⟨_, rfl⟩
    have Hn := Keep.mk hn
    clear hn
    obtain ⟨C, hC⟩ : ∃ C, A ++ formL l ++ B = C := ⟨_, rfl⟩
    have HC := Keep.mk hC
    clear hC
    have Hnl : Keep (n = A.length + (formL l).length) := ⟨by rw [← Hn.out, List.length_append]⟩
    have HCl : Keep (C.length = n + B.length) := ⟨by rw [← HC.out, List.length_append, Hn.out]⟩
    have HCs : Keep (C.length ≤ 140000000) := ⟨by have := HCl.out; have := Hnl.out; have := Hfs.out; have := HlA.out; have := HlB.out; omega⟩
    have HByC : Keep (Byts C) := ⟨by rw [← HC.out]; exact (HByA.out.app HByF.out).app HByB.out⟩
    have HCd : Keep (C.drop A.length = formL l ++ B) := ⟨by rw [← HC.out, List.append_assoc, List.drop_left]⟩
    have hwn : IntKind.i64.wrap ((n : Int) + (B.length : Int)) = (C.length : Int) := by rw [IntKind.wrap_i64]; have := HCl.out; have := HCs.out; omega
    simp only [Act.put, List.setIfInBounds_toArray, List.set_cons_zero, List.set_cons_succ]
    refine WL.val (by kernel_rfl) (.int .i64 0) (by go_simp) ?_
    simp only [Act.put, List.setIfInBounds_toArray, List.set_cons_zero, List.set_cons_succ]
    refine WL.nil ?_
    refine hK6 _ _ ?_
    refine wp_seq_k fun K7 hK7 => ?_
    refine wp_seq_k fun K8 hK8 => ?_
    refine wp_region_list (WL.out ?_)
    refine WL.val (by kernel_rfl) (.int .i64 0) (by go_simp) ?_
    simp only [Act.put, List.setIfInBounds_toArray, List.set_cons_zero, List.set_cons_succ]
    refine WL.val (by kernel_rfl) (.bool false) (by go_simp) ?_
    simp only [Act.put, List.setIfInBounds_toArray, List.set_cons_zero, List.set_cons_succ]
    refine WL.nil ?_
    refine hK8 _ _ ?_
    refine wp_cond_false rfl ?_
    refine wp_skip ?_
    refine hK7 _ _ ?_
    refine wp_seq_k fun K9 hK9 => ?_
    refine wp_region_list (WL.out ?_)
    refine WL.val (by kernel_rfl) (.pointer (some ⟨q, 0, none⟩)) (by go_simp) ?_
    simp only [Act.put, List.setIfInBounds_toArray, List.set_cons_zero, List.set_cons_succ]
    refine WL.callF (by kernel_rfl) 21 _ _ rfl Try.in21 #[ptr q] (by simp [Act.eval]) ?_
    refine (olen_any q v3 _ w3 HO3.out).mono ?_
    rintro e w4 ⟨rfl, hw4⟩
    refine ⟨_, rfl, ?_⟩
    rw [hw4, Hn.out]
    clear hw4 w4
    simp only [Act.put, List.setIfInBounds_toArray, List.set_cons_zero, List.set_cons_succ]
    refine WL.val (by kernel_rfl) (.int .i64 (n : Int)) (by go_simp) ?_
    simp only [Act.put, List.setIfInBounds_toArray, List.set_cons_zero, List.set_cons_succ]
    refine WL.nil ?_
    refine hK9 _ _ ?_
    refine wp_seq_k fun K10 hK10 => ?_
    refine wp_region_list (WL.out ?_)
    refine WL.val (by kernel_rfl) (.pointer (some ⟨q, 0, none⟩)) (by go_simp) ?_
    simp only [Act.put, List.setIfInBounds_toArray, List.set_cons_zero, List.set_cons_succ]
    refine WL.val (by kernel_rfl) (.slice ba B.length bc) (by go_simp) ?_
    simp only [Act.put, List.setIfInBounds_toArray, List.set_cons_zero, List.set_cons_succ]
    refine WL.callF (by kernel_rfl) 19 _ _ rfl Try.in19 #[ptr q, .slice ba B.length bc] (by simp [Act.eval]) ?_
    refine (oraw_any q v3 _ _ B w3 HO3.out (HB.out.below B3.out) (by rw [HC.out]; have := HCs.out; omega)).mono ?_
    rintro e w4 ⟨rfl, v4, h1, h2, h3⟩
    refine ⟨_, rfl, ?_⟩
    rw [HC.out] at h1
    have HO4 := Keep.mk h1
    have B4 : Keep (Below w.heap.size w w4) := ⟨B3.out.trans (h3.to_below (fun k hk e => by rcases e with rfl | e; have := Hq.out; omega; have := Hv3.out k e; omega) B3.out.size)⟩
    clear h1 h2 h3
    simp only [Act.put, List.setIfInBounds_toArray, List.set_cons_zero, List.set_cons_succ]
    refine WL.nil ?_
    refine hK10 _ _ ?_
    refine wp_seq_k fun K11 hK11 => ?_
    refine wp_region_list (WL.out ?_)
    refine WL.val (by kernel_rfl) (.pointer (some ⟨q, 0, none⟩)) (by go_simp) ?_
    simp only [Act.put, List.setIfInBounds_toArray, List.set_cons_zero, List.set_cons_succ]
    refine WL.callF (by kernel_rfl) 22 _ _ rfl Try.in22 #[ptr q] (by simp [Act.eval]) ?_
    refine (odone_any q v4 C w4 HO4.out (by have := HCs.out; omega)).mono ?_
    rintro e w5 ⟨rfl, hw5⟩
    refine ⟨_, rfl, ?_⟩
    rw [hw5]
    clear hw5 w5
    have HD5 := Keep.mk (own_done w4 C (by have := HCs.out; omega)).row
    have BS5 : Keep (Below w4.heap.size w4 (w4.alloc (.cells (bv C).toArray 5))) := ⟨below_new w4 _⟩
    generalize w4.alloc (.cells (bv C).toArray 5) = w5 at *
    have B5 : Keep (Below w.heap.size w w5) := ⟨B4.out.trans (BS5.out.mono B4.out.size)⟩
    clear BS5
    generalize w4.heap.size = d at *
    simp only [Act.put, List.setIfInBounds_toArray, List.set_cons_zero, List.set_cons_succ]
    refine WL.val (by kernel_rfl) (.slice (some ⟨d, 0, none⟩) C.length C.length) (by go_simp) ?_
    simp only [Act.put, List.setIfInBounds_toArray, List.set_cons_zero, List.set_cons_succ]
    refine WL.nil ?_
    refine hK11 _ _ ?_
    refine wp_seq_k fun K12 hK12 => ?_
    refine wp_seq_k fun K13 hK13 => ?_
    refine wp_region_list (WL.out ?_)
    refine WL.val (by kernel_rfl) (.slice (some ⟨d, 0, none⟩) C.length C.length) (by go_simp) ?_
    simp only [Act.put, List.setIfInBounds_toArray, List.set_cons_zero, List.set_cons_succ]
    refine WL.val (by kernel_rfl) (.int .i64 (C.length : Int)) (by go_simp) ?_
    simp only [Act.put, List.setIfInBounds_toArray, List.set_cons_zero, List.set_cons_succ]
    refine WL.val (by kernel_rfl) (.int .i64 (n : Int)) (by go_simp) ?_
    simp only [Act.put, List.setIfInBounds_toArray, List.set_cons_zero, List.set_cons_succ]
    refine WL.val (by kernel_rfl) (.slice ba B.length bc) (by go_simp) ?_
    simp only [Act.put, List.setIfInBounds_toArray, List.set_cons_zero, List.set_cons_succ]
    refine WL.val (by kernel_rfl) (.int .i64 (B.length : Int)) (by go_simp) ?_
    simp only [Act.put, List.setIfInBounds_toArray, List.set_cons_zero, List.set_cons_succ]
    refine WL.val (by kernel_rfl) (.int .i64 (C.length : Int)) (by go_simp) ?_
    simp only [Act.put, List.setIfInBounds_toArray, List.set_cons_zero, List.set_cons_succ]
    refine WL.val (by kernel_rfl) (.bool false) (by go_simp) ?_
    simp only [Act.put, List.setIfInBounds_toArray, List.set_cons_zero, List.set_cons_succ]
    refine WL.nil ?_
    refine hK13 _ _ ?_
    refine wp_cond_false rfl ?_
    refine wp_skip ?_
    refine hK12 _ _ ?_
    refine wp_seq_k fun K14 hK14 => ?_
    refine wp_region_list (WL.out ?_)
    refine WL.val (by kernel_rfl) (.slice (some ⟨d, 0, none⟩) C.length C.length) (by go_simp) ?_
    simp only [Act.put, List.setIfInBounds_toArray, List.set_cons_zero, List.set_cons_succ]
    obtain ⟨st, hst⟩ : ∃ st, strOfNums C = st := ⟨_, rfl⟩
    have Hst := Keep.mk hst
    clear hst
    have Hlst : Keep (lst st = C) := ⟨by rw [← Hst.out]; exact lst_nums HByC.out⟩
    have Hsz : Keep (st.size = C.length) := ⟨by rw [← Hst.out]; exact str_size HByC.out⟩
    have HS : Keep (st.size ≤ 140737488355328) := ⟨by rw [Hsz.out]; have := HCs.out; omega⟩
    refine WL.callF (by kernel_rfl) 7 _ _ rfl Try.in7 #[.slice (some ⟨d, 0, none⟩) C.length C.length] (by simp [Act.eval]) ?_
    refine (newIn_any _ C w5 HD5.out).mono ?_
    rintro e w6 ⟨rfl, hw6⟩
    refine ⟨_, rfl, ?_⟩
    rw [Hst.out] at hw6
    rw [hw6]
    clear hw6 w6
    have HI6 : Keep (InAt (w5.alloc (.cells #[.string st, .int .i64 0, .pointer none] 68)) w5.heap.size st 0 none) := ⟨Blk.new w5 68 _, Nat.zero_le _⟩
    have B6 : Keep (Below w5.heap.size w5 (w5.alloc (.cells #[.string st, .int .i64 0, .pointer none] 68))) := ⟨below_new w5 _⟩
    generalize w5.alloc (.cells #[.string st, .int .i64 0, .pointer none] 68) = w6 at *
    obtain ⟨p, hp⟩ : ∃ p, w5.heap.size = p := ⟨_, rfl⟩
    have Hp := Keep.mk hp
    rw [hp] at HI6 ⊢
    clear hp
    simp only [Act.put, List.setIfInBounds_toArray, List.set_cons_zero, List.set_cons_succ]
    refine WL.val (by kernel_rfl) (.pointer (some ⟨p, 0, none⟩)) (by go_simp) ?_
    simp only [Act.put, List.setIfInBounds_toArray, List.set_cons_zero, List.set_cons_succ]
    refine WL.nil ?_
    refine hK14 _ _ ?_
    refine wp_seq_k fun K15 hK15 => ?_
    refine wp_seq_k fun K16 hK16 => ?_
    refine wp_region_list (WL.out ?_)
    refine WL.val (by kernel_rfl) (.pointer (some ⟨p, 0, none⟩)) (by go_simp) ?_
    simp only [Act.put, List.setIfInBounds_toArray, List.set_cons_zero, List.set_cons_succ]
    refine WL.val (by kernel_rfl) (.bool false) (by go_simp) ?_
    simp only [Act.put, List.setIfInBounds_toArray, List.set_cons_zero, List.set_cons_succ]
    refine WL.nil ?_
    refine hK16 _ _ ?_
    refine wp_cond_false rfl ?_
    refine wp_skip ?_
    refine hK15 _ _ ?_
    refine wp_seq_k fun K17 hK17 => ?_
    refine wp_region_list (WL.out ?_)
    refine WL.val (by kernel_rfl) (.pointer (some ⟨p, 0, none⟩)) (by go_simp) ?_
    simp only [Act.put, List.setIfInBounds_toArray, List.set_cons_zero, List.set_cons_succ]
    refine WL.val (by kernel_rfl) (.slice aa A.length acp) (by go_simp) ?_
    simp only [Act.put, List.setIfInBounds_toArray, List.set_cons_zero, List.set_cons_succ]
    refine WL.val (by kernel_rfl) (.int .i64 (A.length : Int)) (by go_simp) ?_
    simp only [Act.put, List.setIfInBounds_toArray, List.set_cons_zero, List.set_cons_succ]
    refine WL.callF (by kernel_rfl) 8 _ _ rfl Try.in8 #[ptr p, .int .i64 (A.length : Int)] (by simp [Act.eval]) ?_
    refine (iraw_good p st 0 (A.length : Int) w6 HI6.out HS.out (by omega) (by have := HlA.out; omega) C (by rw [Hlst.out, List.drop_zero]) 0 (by unfold nextW; rw [if_neg (by omega), if_neg (by have := HCl.out; have := Hnl.out; omega)]) A.length (by unfold nextN; rw [if_pos (by unfold nextW; rw [if_neg (by omega), if_neg (by have := HCl.out; have := Hnl.out; omega)])]; omega)).mono ?_
    rintro e w7 ⟨bad, er, res, rfl, h1, h2, h3, h4⟩
    refine ⟨_, rfl, ?_⟩
    rcases h3 with ⟨_, rfl, rfl⟩ | ⟨e1, _⟩
    rotate_left
    · exact absurd rfl e1
    rw [Nat.zero_add] at h1
    have HI7 := Keep.mk h1
    have B7 : Keep (Below w5.heap.size w5 w7) := ⟨B6.out.trans (h2.to_below (fun k hk e => by have := Hp.out; omega) B6.out.size)⟩
    clear h1 h2 h4
    simp only [Act.put, List.setIfInBounds_toArray, List.set_cons_zero, List.set_cons_succ]
    refine WL.nil ?_
    refine hK17 _ _ ?_
    refine wp_seq_k fun K18 hK18 => ?_
    refine wp_region_list (WL.out ?_)
    refine WL.val (by kernel_rfl) (.pointer (some ⟨p, 0, none⟩)) (by go_simp) ?_
    simp only [Act.put, List.setIfInBounds_toArray, List.set_cons_zero, List.set_cons_succ]
    refine WL.callF (by kernel_rfl) 10 _ _ rfl Try.in10 #[ptr p] (by simp [Act.eval]) ?_
    refine (get_any p st A.length w7 HI7.out HS.out).mono ?_
    rintro e w8 h8
    rw [Hlst.out, getL_there Hok.out Hch.out HCd.out] at h8
    obtain ⟨v, er, rfl, hg8, hc8⟩ := h8
    refine ⟨_, rfl, ?_⟩
    have B8 : Keep (Below w5.heap.size w5 w8) := ⟨B7.out.trans (hg8.to_below (fun k hk e => by have := Hp.out; omega) B7.out.size)⟩
    clear hg8
    rcases hc8 with ⟨_, rfl, h4, h5, h6, _, _⟩ | ⟨e1, _⟩
    rotate_left
    · exact absurd rfl e1
    dsimp only at h4 h6
    rw [← Hnl.out] at h6
    have HG8 := Keep.mk h4
    have HI8 := Keep.mk h6
    obtain ⟨ga, gc, rfl⟩ := h4.sl
    clear h4 h5 h6
    simp only [Act.put, List.setIfInBounds_toArray, List.set_cons_zero, List.set_cons_succ]
    refine WL.val (by kernel_rfl) (.tuple #[.slice ga l.length gc, .nilIface]) (by go_simp) ?_
    simp only [Act.put, List.setIfInBounds_toArray, List.set_cons_zero, List.set_cons_succ]
    refine WL.val (by kernel_rfl) (.slice ga l.length gc) (by go_simp) ?_
    simp only [Act.put, List.setIfInBounds_toArray, List.set_cons_zero, List.set_cons_succ]
    refine WL.val (by kernel_rfl) (.nilIface) (by go_simp) ?_
    simp only [Act.put, List.setIfInBounds_toArray, List.set_cons_zero, List.set_cons_succ]
    refine WL.val (by kernel_rfl) (.slice ga l.length gc) (by go_simp) ?_
    simp only [Act.put, List.setIfInBounds_toArray, List.set_cons_zero, List.set_cons_succ]
    refine WL.val (by kernel_rfl) (.nilIface) (by go_simp) ?_
    simp only [Act.put, List.setIfInBounds_toArray, List.set_cons_zero, List.set_cons_succ]
    refine WL.nil ?_
    refine hK18 _ _ ?_
    refine wp_seq_k fun K19 hK19 => ?_
    refine wp_seq_k fun K20 hK20 => ?_
    refine wp_region_list (WL.out ?_)
    refine WL.val (by kernel_rfl) (.nilIface) (by go_simp) ?_
    simp only [Act.put, List.setIfInBounds_toArray, List.set_cons_zero, List.set_cons_succ]
    refine WL.val (by kernel_rfl) (.bool false) (by go_simp) ?_
    simp only [Act.put, List.setIfInBounds_toArray, List.set_cons_zero, List.set_cons_succ]
    refine WL.val (by kernel_rfl) (.bool false) (by go_simp) ?_
    simp only [Act.put, List.setIfInBounds_toArray, List.set_cons_zero, List.set_cons_succ]
    refine WL.val (by kernel_rfl) (.slice ga l.length gc) (by go_simp) ?_
    simp only [Act.put, List.setIfInBounds_toArray, List.set_cons_zero, List.set_cons_succ]
    refine WL.val (by kernel_rfl) (.int .i64 (l.length : Int)) (by go_simp) ?_
    simp only [Act.put, List.setIfInBounds_toArray, List.set_cons_zero, List.set_cons_succ]
    refine WL.val (by kernel_rfl) (.slice la l.length lc) (by go_simp) ?_
    simp only [Act.put, List.setIfInBounds_toArray, List.set_cons_zero, List.set_cons_succ]
    refine WL.val (by kernel_rfl) (.int .i64 (l.length : Int)) (by go_simp) ?_
    simp only [Act.put, List.setIfInBounds_toArray, List.set_cons_zero, List.set_cons_succ]
    refine WL.val (by kernel_rfl) (.bool false) (by go_simp) ?_
    simp only [Act.put, List.setIfInBounds_toArray, List.set_cons_zero, List.set_cons_succ]
    refine WL.val (by kernel_rfl) (.bool false) (by go_simp) ?_
    simp only [Act.put, List.setIfInBounds_toArray, List.set_cons_zero, List.set_cons_succ]
    refine WL.val (by kernel_rfl) (.bool false) (by go_simp) ?_
    simp only [Act.put, List.setIfInBounds_toArray, List.set_cons_zero, List.set_cons_succ]
    refine WL.val (by kernel_rfl) (.pointer (some ⟨p, 0, none⟩)) (by go_simp) ?_
    simp only [Act.put, List.setIfInBounds_toArray, List.set_cons_zero, List.set_cons_succ]
    refine WL.callF (by kernel_rfl) 14 _ _ rfl Try.in14 #[ptr p] (by simp [Act.eval]) ?_
    refine (iat_any p st n none w8 HI8.out).mono ?_
    rintro e w9 ⟨rfl, hw9⟩
    refine ⟨_, rfl, ?_⟩
    rw [hw9]
    clear hw9 w9
    simp only [Act.put, List.setIfInBounds_toArray, List.set_cons_zero, List.set_cons_succ]
    refine WL.val (by kernel_rfl) (.int .i64 (n : Int)) (by go_simp) ?_
    simp only [Act.put, List.setIfInBounds_toArray, List.set_cons_zero, List.set_cons_succ]
    refine WL.val (by kernel_rfl) (.bool false) (by go_simp) ?_
    simp only [Act.put, List.setIfInBounds_toArray, List.set_cons_zero, List.set_cons_succ]
    refine WL.val (by kernel_rfl) (.bool false) (by go_simp) ?_
    simp only [Act.put, List.setIfInBounds_toArray, List.set_cons_zero, List.set_cons_succ]
    refine WL.val (by kernel_rfl) (.bool false) (by go_simp) ?_
    simp only [Act.put, List.setIfInBounds_toArray, List.set_cons_zero, List.set_cons_succ]
    refine WL.val (by kernel_rfl) (.pointer (some ⟨p, 0, none⟩)) (by go_simp) ?_
    simp only [Act.put, List.setIfInBounds_toArray, List.set_cons_zero, List.set_cons_succ]
    refine WL.callF (by kernel_rfl) 15 _ _ rfl Try.in15 #[ptr p] (by simp [Act.eval]) ?_
    refine (ileft_any p st n none w8 HI8.out HS.out).mono ?_
    rintro e w9 ⟨rfl, z9, hw9⟩
    refine ⟨_, rfl, ?_⟩
    have B9 : Keep (Below w5.heap.size w5 w9) := ⟨by rw [hw9]; exact B8.out.trans ((below_drewN w8 z9).mono B8.out.size)⟩
    have B89 : Keep (Below w8.heap.size w8 w9) := ⟨by rw [hw9]; exact below_drewN w8 z9⟩
    clear hw9
    rw [show ((st.size : Int) - (n : Int)) = (B.length : Int) by rw [Hsz.out, HCl.out]; omega]
    have HG9 := Keep.mk (HG8.out.below B89.out).ops
    have B9w : Keep (Below w.heap.size w w9) := ⟨B5.out.trans (B9.out.mono B5.out.size)⟩
    have HL9 := Keep.mk (HL.out.below B9w.out)
    have HD9 := Keep.mk (HD5.out.below B9.out)
    simp only [Act.put, List.setIfInBounds_toArray, List.set_cons_zero, List.set_cons_succ]
    refine WL.val (by kernel_rfl) (.slice ba B.length bc) (by go_simp) ?_
    simp only [Act.put, List.setIfInBounds_toArray, List.set_cons_zero, List.set_cons_succ]
    refine WL.val (by kernel_rfl) (.int .i64 (B.length : Int)) (by go_simp) ?_
    simp only [Act.put, List.setIfInBounds_toArray, List.set_cons_zero, List.set_cons_succ]
    refine WL.val (by kernel_rfl) (.bool false) (by go_simp) ?_
    simp only [Act.put, List.setIfInBounds_toArray, List.set_cons_zero, List.set_cons_succ]
    refine WL.val (by kernel_rfl) (.bool false) (by go_simp) ?_
    simp only [Act.put, List.setIfInBounds_toArray, List.set_cons_zero, List.set_cons_succ]
    refine WL.nil ?_
    refine hK20 _ _ ?_
    refine wp_cond_false rfl ?_
    refine wp_skip ?_
    refine hK19 _ _ ?_
    refine wp_seq_k fun K21 hK21 => ?_
    refine wp_seq_k fun K22 hK22 => ?_
    refine wp_region_list (WL.out ?_)
    refine WL.val (by kernel_rfl) (.int .i64 0) (by go_simp) ?_
    simp only [Act.put, List.setIfInBounds_toArray, List.set_cons_zero, List.set_cons_succ]
    refine WL.nil ?_
    refine hK22 _ _ ?_
    refine wp_block ?_
    refine wp_loop (fun ac wr => ∃ (t : Nat) (u6 u83 u84 u85 u86 u87 u88 u89 u90 u91 u92 u93 u94 u95 u96 u97 u98 u99 u100 u101 u102 u103 u104 u105 u106 u107 u108 u109 u110 : Value), ac = { tmps := #[.slice la l.length lc, .slice aa A.length acp, .slice ba B.length bc, undef, undef, undef, u6, .pointer (some ⟨q, 0, none⟩), .int .i64 0, .int .i64 (n : Int), .slice (some ⟨d, 0, none⟩) C.length C.length, .pointer (some ⟨p, 0, none⟩), .slice ga l.length gc, .nilIface, .int .i64 (t : Int), .pointer (some ⟨q, 0, none⟩), .pointer (some ⟨q, 0, none⟩), .bool false, .pointer (some ⟨q, 0, none⟩), .slice aa A.length acp, .tuple #[], .pointer (some ⟨q, 0, none⟩), .slice la l.length lc, .int .i64 0, .int .i64 0, .bool false, undef, undef, undef, undef, undef, undef, undef, undef, .pointer (some ⟨q, 0, none⟩), .int .i64 (n : Int), .pointer (some ⟨q, 0, none⟩), .slice ba B.length bc, .tuple #[], .pointer (some ⟨q, 0, none⟩), .slice (some ⟨d, 0, none⟩) C.length C.length, .slice (some ⟨d, 0, none⟩) C.length C.length, .int .i64 (C.length : Int), .int .i64 (n : Int), .slice ba B.length bc, .int .i64 (B.length : Int), .int .i64 (C.length : Int), .bool false, .slice (some ⟨d, 0, none⟩) C.length C.length, .pointer (some ⟨p, 0, none⟩), .pointer (some ⟨p, 0, none⟩), .bool false, .pointer (some ⟨p, 0, none⟩), .slice aa A.length acp, .int .i64 (A.length : Int), .tuple #[res, .nilIface], .tuple #[.slice ga l.length gc, .nilIface], .pointer (some ⟨p, 0, none⟩), .tuple #[.slice ga l.length gc, .nilIface], .slice ga l.length gc, .nilIface, .nilIface, .bool false, .bool false, .slice ga l.length gc, .int .i64 (l.length : Int), .slice la l.length lc, .int .i64 (l.length : Int), .bool false, .bool false, .bool false, .pointer (some ⟨p, 0, none⟩), .int .i64 (n : Int), .int .i64 (n : Int), .bool false, .bool false, .bool false, .pointer (some ⟨p, 0, none⟩), .int .i64 (B.length : Int), .slice ba B.length bc, .int .i64 (B.length : Int), .bool false, .bool false, u83, u84, u85, u86, u87, u88, u89, u90, u91, u92, u93, u94, u95, u96, u97, u98, u99, u100, u101, u102, u103, u104, u105, u106, u107, u108, u109, u110, undef, undef, undef, undef, undef, undef, undef, undef, undef], defers := [] } ∧ t ≤ l.length ∧ Below w9.heap.size w9 wr) (fun a _ => l.length - (intOf (a.tmps.getD 14 undef)).toNat) ⟨0, .bool false, undef, undef, undef, undef, undef, undef, undef, undef, undef, undef, undef, undef, undef, undef, undef, undef, undef, undef, undef, undef, undef, undef, undef, undef, undef, undef, undef, undef, rfl, by omega, Below.refl _ _⟩ ?_
    rintro ac wr ⟨t, u6, u83, u84, u85, u86, u87, u88, u89, u90, u91, u92, u93, u94, u95, u96, u97, u98, u99, u100, u101, u102, u103, u104, u105, u106, u107, u108, u109, u110, rfl, ht, hB⟩
    by_cases htl : t < l.length
    · have htl' : (t : Int) < (l.length : Int) := by omega
      obtain ⟨gA, oA, hva, hra⟩ := (HG9.out.below hB).at htl
      obtain ⟨gB, oB, hvb, hrb⟩ := (HL9.out.below hB).at htl
      generalize l.getD t zeroOp = x at *
      have hwr1 : IntKind.i64.wrap ((t : Int) + 1) = (t : Int) + 1 := by rw [IntKind.wrap_i64]; have := Hll.out; omega
      have HSa : Keep (∀ wx, Below wr.heap.size wr wx → wx.rangeAt gA (oA + t * 37) (opL x) ∧ wx.rangeAt gB (oB + t * 37) (opL x)) := ⟨fun wx hx => ⟨range_grown hra (Grown.below (S := fun _ => False) hx) (fun h => h), range_grown hrb (Grown.below (S := fun _ => False) hx) (fun h => h)⟩⟩
      have HBl := Keep.mk hB
      clear hra hrb hB
      refine wp_seq_k fun K23 hK23 => ?_
      refine wp_seq_k fun K24 hK24 => ?_
      refine wp_region_list (WL.out ?_)
      refine WL.val (by kernel_rfl) (.int .i64 (t : Int)) (by go_simp) ?_
      simp only [Act.put, List.setIfInBounds_toArray, List.set_cons_zero, List.set_cons_succ]
      refine WL.val (by kernel_rfl) (.slice la l.length lc) (by go_simp) ?_
      simp only [Act.put, List.setIfInBounds_toArray, List.set_cons_zero, List.set_cons_succ]
      refine WL.val (by kernel_rfl) (.int .i64 (l.length : Int)) (by go_simp) ?_
      simp only [Act.put, List.setIfInBounds_toArray, List.set_cons_zero, List.set_cons_succ]
      refine WL.val (by kernel_rfl) (.bool true) (by go_simp) ?_
      simp only [Act.put, List.setIfInBounds_toArray, List.set_cons_zero, List.set_cons_succ]
      refine WL.nil ?_
      refine hK24 _ _ ?_
      refine wp_cond_true rfl ?_
      refine wp_skip ?_
      refine hK23 _ _ ?_
      refine wp_seq_k fun K25 hK25 => ?_
      refine wp_block ?_
      refine wp_seq_k fun K26 hK26 => ?_
      have hD0 : Below wr.heap.size wr wr.drew := (Below.refl _ _).drew
      refine wp_region_held_drew (S := fun wx => wx.rangeAt gA (oA + t * 37) (opL x) ∧ wx.rangeAt gB (oB + t * 37) (opL x)) (by kernel_rfl) (HSa.out _ hD0) (fun hHeld => ?_)
      refine wpAnyH_take (i := 0) (oi := ⟨some 89, Op.move (Operand.tmp 12), 36, _, _, none⟩) (v := .slice ga l.length gc) rfl (by kernel_rfl) (by kernel_rfl) (by kernel_rfl) (fun _ _ _ h => h) (Or.inl ⟨by rfl, fun w hS => by go_simp⟩) hHeld ?_
      simp only [Act.put, List.setIfInBounds_toArray, List.set_cons_zero, List.set_cons_succ]
      refine wpAnyH_take (i := 1) (oi := ⟨some 90, Op.move (Operand.tmp 14), 3, _, _, none⟩) (v := .int .i64 (t : Int)) rfl (by kernel_rfl) (by kernel_rfl) (by kernel_rfl) (fun _ _ _ h => h) (Or.inl ⟨by rfl, fun w hS => by go_simp⟩) hHeld ?_
      simp only [Act.put, List.setIfInBounds_toArray, List.set_cons_zero, List.set_cons_succ]
      refine wpAnyH_take (i := 2) (oi := ⟨some 91, Op.indexAddr 36 (Operand.tmp 89) (Operand.tmp 90), 0, _, _, none⟩) (v := .pointer (some ⟨gA, oA + t * 37, none⟩)) rfl (by kernel_rfl) (by kernel_rfl) (by kernel_rfl) (fun _ _ _ h => h) (Or.inl ⟨by rfl, fun w hS => by go_simp⟩) hHeld ?_
      simp only [Act.put, List.setIfInBounds_toArray, List.set_cons_zero, List.set_cons_succ]
      refine wpAnyH_take (i := 3) (oi := ⟨some 92, Op.load 59 (Operand.tmp 91), 59, _, _, none⟩) (v := .agg (opL x).toArray) rfl (by kernel_rfl) (by kernel_rfl) (by kernel_rfl) (fun _ _ _ h => h) (yieldsIf_load_mid (by rfl) 59 (Operand.tmp 91) rfl gA (oA + t * 37) rfl (opL x) _ (fun w hS => hS.1) Try.underlying59 rfl (Try.size59L x)) hHeld ?_
      simp only [Act.put, List.setIfInBounds_toArray, List.set_cons_zero, List.set_cons_succ]
      refine wpAnyH_take (i := 4) (oi := ⟨some 93, Op.move (Operand.tmp 0), 36, _, _, none⟩) (v := .slice la l.length lc) rfl (by kernel_rfl) (by kernel_rfl) (by kernel_rfl) (fun _ _ _ h => h) (Or.inl ⟨by rfl, fun w hS => by go_simp⟩) hHeld ?_
      simp only [Act.put, List.setIfInBounds_toArray, List.set_cons_zero, List.set_cons_succ]
      refine wpAnyH_take (i := 5) (oi := ⟨some 94, Op.move (Operand.tmp 14), 3, _, _, none⟩) (v := .int .i64 (t : Int)) rfl (by kernel_rfl) (by kernel_rfl) (by kernel_rfl) (fun _ _ _ h => h) (Or.inl ⟨by rfl, fun w hS => by go_simp⟩) hHeld ?_
      simp only [Act.put, List.setIfInBounds_toArray, List.set_cons_zero, List.set_cons_succ]
      refine wpAnyH_take (i := 6) (oi := ⟨some 95, Op.indexAddr 36 (Operand.tmp 93) (Operand.tmp 94), 0, _, _, none⟩) (v := .pointer (some ⟨gB, oB + t * 37, none⟩)) rfl (by kernel_rfl) (by kernel_rfl) (by kernel_rfl) (fun _ _ _ h => h) (Or.inl ⟨by rfl, fun w hS => by go_simp⟩) hHeld ?_
      simp only [Act.put, List.setIfInBounds_toArray, List.set_cons_zero, List.set_cons_succ]
      refine wpAnyH_take (i := 7) (oi := ⟨some 96, Op.load 59 (Operand.tmp 95), 59, _, _, none⟩) (v := .agg (opL x).toArray) rfl (by kernel_rfl) (by kernel_rfl) (by kernel_rfl) (fun _ _ _ h => h) (yieldsIf_load_mid (by rfl) 59 (Operand.tmp 95) rfl gB (oB + t * 37) rfl (opL x) _ (fun w hS => hS.2) Try.underlying59 rfl (Try.size59L x)) hHeld ?_
      simp only [Act.put, List.setIfInBounds_toArray, List.set_cons_zero, List.set_cons_succ]
      refine wpAnyH_ready (rs := [8]) (by kernel_rfl) (by simp) ?_
      refine AllReadyH.cons (o := ⟨some 97, Op.call { callee := Callee.value (Operand.func 23), args := #[Operand.tmp 92, Operand.tmp 96], argTypes := #[59, 59] }, 4, _, _, none⟩) rfl (fun K hK => ?_) AllReadyH.nil
      rw [if_pos (by rfl)]
      refine wp_callF 23 _ _ rfl Try.in23 #[.agg (opA x), .agg (opA x)] (by simp [Act.eval, rng_load]) (fun vz wz => vz = .bool true ∧ Below wr.heap.size wr wz) ?_ ?_
      · refine (same_any x x wr.drew).mono ?_
        rintro e wz ⟨rfl, h⟩
        rw [sm_refl]
        exact ⟨_, rfl, rfl, hD0.trans (h.mono hD0.size)⟩
      rintro vz w10 ⟨rfl, h7⟩
      have HB7 := Keep.mk h7
      clear h7
      refine hK.out _ _ (HSa.out _ HB7.out) fun hHeld2 => ?_
      clear hK
      simp only [Act.put, List.setIfInBounds_toArray, List.set_cons_zero, List.set_cons_succ]
      refine wpAnyH_take (i := 9) (oi := ⟨some 98, Op.unOp UnOp.not 4 (Operand.tmp 97), 4, _, _, none⟩) (v := .bool false) rfl (by kernel_rfl) (by kernel_rfl) (by kernel_rfl) (fun _ _ _ h => h) (Or.inl ⟨by rfl, fun w hS => by go_simp⟩) hHeld2 ?_
      simp only [Act.put, List.setIfInBounds_toArray, List.set_cons_zero, List.set_cons_succ]
      refine wpAnyH_take (i := 10) (oi := ⟨some 99, Op.move (Operand.tmp 98), 4, _, _, none⟩) (v := .bool false) rfl (by kernel_rfl) (by kernel_rfl) (by kernel_rfl) (fun _ _ _ h => h) (Or.inl ⟨by rfl, fun w hS => by go_simp⟩) hHeld2 ?_
      simp only [Act.put, List.setIfInBounds_toArray, List.set_cons_zero, List.set_cons_succ]
      refine wpAnyH_take (i := 11) (oi := ⟨some 100, Op.move (Operand.tmp 12), 36, _, _, some (10, false)⟩) (v := .slice ga l.length gc) rfl (by kernel_rfl) (by kernel_rfl) (by kernel_rfl) (fun _ _ _ h => h) (Or.inl ⟨by rfl, fun w hS => by go_simp⟩) hHeld2 ?_
      simp only [Act.put, List.setIfInBounds_toArray, List.set_cons_zero, List.set_cons_succ]
      refine wpAnyH_take (i := 12) (oi := ⟨some 101, Op.move (Operand.tmp 14), 3, _, _, some (10, false)⟩) (v := .int .i64 (t : Int)) rfl (by kernel_rfl) (by kernel_rfl) (by kernel_rfl) (fun _ _ _ h => h) (Or.inl ⟨by rfl, fun w hS => by go_simp⟩) hHeld2 ?_
      simp only [Act.put, List.setIfInBounds_toArray, List.set_cons_zero, List.set_cons_succ]
      refine wpAnyH_take (i := 13) (oi := ⟨some 102, Op.indexAddr 36 (Operand.tmp 100) (Operand.tmp 101), 0, _, _, some (10, false)⟩) (v := .pointer (some ⟨gA, oA + t * 37, none⟩)) rfl (by kernel_rfl) (by kernel_rfl) (by kernel_rfl) (fun _ _ _ h => h) (Or.inl ⟨by rfl, fun w hS => by go_simp⟩) hHeld2 ?_
      simp only [Act.put, List.setIfInBounds_toArray, List.set_cons_zero, List.set_cons_succ]
      refine wpAnyH_take (i := 14) (oi := ⟨some 103, Op.load 59 (Operand.tmp 102), 59, _, _, some (10, false)⟩) (v := .agg (opL x).toArray) rfl (by kernel_rfl) (by kernel_rfl) (by kernel_rfl) (fun _ _ _ h => h) (yieldsIf_load_mid (by rfl) 59 (Operand.tmp 102) rfl gA (oA + t * 37) rfl (opL x) _ (fun w hS => hS.1) Try.underlying59 rfl (Try.size59L x)) hHeld2 ?_
      simp only [Act.put, List.setIfInBounds_toArray, List.set_cons_zero, List.set_cons_succ]
      refine wpAnyH_take (i := 15) (oi := ⟨some 104, Op.move (Operand.tmp 0), 36, _, _, some (10, false)⟩) (v := .slice la l.length lc) rfl (by kernel_rfl) (by kernel_rfl) (by kernel_rfl) (fun _ _ _ h => h) (Or.inl ⟨by rfl, fun w hS => by go_simp⟩) hHeld2 ?_
      simp only [Act.put, List.setIfInBounds_toArray, List.set_cons_zero, List.set_cons_succ]
      refine wpAnyH_take (i := 16) (oi := ⟨some 105, Op.move (Operand.tmp 14), 3, _, _, some (10, false)⟩) (v := .int .i64 (t : Int)) rfl (by kernel_rfl) (by kernel_rfl) (by kernel_rfl) (fun _ _ _ h => h) (Or.inl ⟨by rfl, fun w hS => by go_simp⟩) hHeld2 ?_
      simp only [Act.put, List.setIfInBounds_toArray, List.set_cons_zero, List.set_cons_succ]
      refine wpAnyH_take (i := 17) (oi := ⟨some 106, Op.indexAddr 36 (Operand.tmp 104) (Operand.tmp 105), 0, _, _, some (10, false)⟩) (v := .pointer (some ⟨gB, oB + t * 37, none⟩)) rfl (by kernel_rfl) (by kernel_rfl) (by kernel_rfl) (fun _ _ _ h => h) (Or.inl ⟨by rfl, fun w hS => by go_simp⟩) hHeld2 ?_
      simp only [Act.put, List.setIfInBounds_toArray, List.set_cons_zero, List.set_cons_succ]
      refine wpAnyH_take (i := 18) (oi := ⟨some 107, Op.load 59 (Operand.tmp 106), 59, _, _, some (10, false)⟩) (v := .agg (opL x).toArray) rfl (by kernel_rfl) (by kernel_rfl) (by kernel_rfl) (fun _ _ _ h => h) (yieldsIf_load_mid (by rfl) 59 (Operand.tmp 106) rfl gB (oB + t * 37) rfl (opL x) _ (fun w hS => hS.2) Try.underlying59 rfl (Try.size59L x)) hHeld2 ?_
      simp only [Act.put, List.setIfInBounds_toArray, List.set_cons_zero, List.set_cons_succ]
      refine wpAnyH_ready (rs := [19]) (by kernel_rfl) (by simp) ?_
      refine AllReadyH.cons (o := ⟨some 108, Op.call { callee := Callee.value (Operand.func 24), args := #[Operand.tmp 103, Operand.tmp 107], argTypes := #[59, 59] }, 4, _, _, some (10, false)⟩) rfl (fun K hK => ?_) AllReadyH.nil
      rw [if_pos (by rfl)]
      refine wp_callF 24 _ _ rfl Try.in24 #[.agg (opA x), .agg (opA x)] (by simp [Act.eval, rng_load]) (fun vz wz => vz = .bool true ∧ Below wr.heap.size wr wz) ?_ ?_
      · refine (rsame_any x x w10).mono ?_
        rintro e wz ⟨rfl, h⟩
        rw [sm_refl]
        exact ⟨_, rfl, rfl, HB7.out.trans (h.mono HB7.out.size)⟩
      rintro vz w11 ⟨rfl, h7⟩
      have HB8 := Keep.mk h7
      clear h7
      refine hK.out _ _ (HSa.out _ HB8.out) fun hHeld3 => ?_
      clear hK
      simp only [Act.put, List.setIfInBounds_toArray, List.set_cons_zero, List.set_cons_succ]
      refine wpAnyH_take (i := 20) (oi := ⟨some 109, Op.unOp UnOp.not 4 (Operand.tmp 108), 4, _, _, some (10, false)⟩) (v := .bool false) rfl (by kernel_rfl) (by kernel_rfl) (by kernel_rfl) (fun _ _ _ h => h) (Or.inl ⟨by rfl, fun w hS => by go_simp⟩) hHeld3 ?_
      simp only [Act.put, List.setIfInBounds_toArray, List.set_cons_zero, List.set_cons_succ]
      refine wpAnyH_take (i := 21) (oi := ⟨some 110, Op.pick (Operand.tmp 99) (Operand.const (Value.bool true)) (Operand.tmp 109), 4, _, _, none⟩) (v := .bool false) rfl (by kernel_rfl) (by kernel_rfl) (by kernel_rfl) (fun _ _ _ h => h) (Or.inl ⟨by rfl, fun w hS => by go_simp⟩) hHeld3 ?_
      simp only [Act.put, List.setIfInBounds_toArray, List.set_cons_zero, List.set_cons_succ]
      refine wpAnyH_done (by kernel_rfl) ?_ _
      refine hK26 _ _ ?_
      refine wp_cond_false rfl ?_
      refine wp_skip ?_
      refine hK25 _ _ ?_
      refine wp_region_list (WL.out ?_)
      refine WL.val (by kernel_rfl) (.int .i64 (t : Int)) (by go_simp) ?_
      simp only [Act.put, List.setIfInBounds_toArray, List.set_cons_zero, List.set_cons_succ]
      refine WL.val (by kernel_rfl) (.int .i64 ((t : Int) + 1)) (by go_simp) ?_
      simp only [Act.put, List.setIfInBounds_toArray, List.set_cons_zero, List.set_cons_succ]
      refine WL.val (by kernel_rfl) (.int .i64 ((t : Int) + 1)) (by go_simp) ?_
      simp only [Act.put, List.setIfInBounds_toArray, List.set_cons_zero, List.set_cons_succ]
      refine WL.nil ?_
      refine ⟨⟨t + 1, u6, .int .i64 (t : Int), .slice la l.length lc, .int .i64 (l.length : Int), .bool true, .int .i64 (t : Int), .int .i64 ((t : Int) + 1), .slice ga l.length gc, .int .i64 (t : Int), .pointer (some ⟨gA, oA + t * 37, none⟩), .agg (opL x).toArray, .slice la l.length lc, .int .i64 (t : Int), .pointer (some ⟨gB, oB + t * 37, none⟩), .agg (opL x).toArray, .bool true, .bool false, .bool false, .slice ga l.length gc, .int .i64 (t : Int), .pointer (some ⟨gA, oA + t * 37, none⟩), .agg (opL x).toArray, .slice la l.length lc, .int .i64 (t : Int), .pointer (some ⟨gB, oB + t * 37, none⟩), .agg (opL x).toArray, .bool true, .bool false, .bool false, rfl, by omega, HBl.out.trans (HB8.out.mono HBl.out.size)⟩, ?_⟩
      simp only [intOf]; show l.length - ((t : Int) + 1).toNat < l.length - ((t : Int)).toNat; omega
    · have htl' : ¬ (t : Int) < (l.length : Int) := by omega
      have Bl := Keep.mk hB
      clear hB
      have HDr := Keep.mk (HD9.out.below Bl.out)
      obtain ⟨vs, hsl, hrs⟩ := mid_any _ C wr HDr.out A.length (formL l).length (by have := HCl.out; have := Hnl.out; omega)
      have HVs := Keep.mk (hrs wr HDr.out)
      rw [HCd.out, List.take_left] at HVs
      have hsl' := hsl wr
      rw [show ((A.length : Int) + ((formL l).length : Int)) = (n : Int) by have := Hnl.out; omega] at hsl'
      clear hsl hrs
      refine wp_seq_k fun K27 hK27 => ?_
      refine wp_seq_k fun K28 hK28 => ?_
      refine wp_region_list (WL.out ?_)
      refine WL.val (by kernel_rfl) (.int .i64 (t : Int)) (by go_simp) ?_
      simp only [Act.put, List.setIfInBounds_toArray, List.set_cons_zero, List.set_cons_succ]
      refine WL.val (by kernel_rfl) (.slice la l.length lc) (by go_simp) ?_
      simp only [Act.put, List.setIfInBounds_toArray, List.set_cons_zero, List.set_cons_succ]
      refine WL.val (by kernel_rfl) (.int .i64 (l.length : Int)) (by go_simp) ?_
      simp only [Act.put, List.setIfInBounds_toArray, List.set_cons_zero, List.set_cons_succ]
      refine WL.val (by kernel_rfl) (.bool false) (by go_simp) ?_
      simp only [Act.put, List.setIfInBounds_toArray, List.set_cons_zero, List.set_cons_succ]
      refine WL.nil ?_
      refine hK28 _ _ ?_
      refine wp_cond_false rfl ?_
      refine wp_exit ?_
      refine hK21 _ _ ?_
      refine wp_seq_k fun K29 hK29 => ?_
      refine wp_region_list (WL.out ?_)
      refine WL.val (by kernel_rfl) (.slice (some ⟨d, 0, none⟩) C.length C.length) (by go_simp) ?_
      simp only [Act.put, List.setIfInBounds_toArray, List.set_cons_zero, List.set_cons_succ]
      refine WL.val (by kernel_rfl) (.slice aa A.length acp) (by go_simp) ?_
      simp only [Act.put, List.setIfInBounds_toArray, List.set_cons_zero, List.set_cons_succ]
      refine WL.val (by kernel_rfl) (.int .i64 (A.length : Int)) (by go_simp) ?_
      simp only [Act.put, List.setIfInBounds_toArray, List.set_cons_zero, List.set_cons_succ]
      refine WL.val (by kernel_rfl) (.int .i64 (n : Int)) (by go_simp) ?_
      simp only [Act.put, List.setIfInBounds_toArray, List.set_cons_zero, List.set_cons_succ]
      refine WL.val (by kernel_rfl) vs (by go_simp) ?_
      clear hsl'
      simp only [Act.put, List.setIfInBounds_toArray, List.set_cons_zero, List.set_cons_succ]
      refine WL.callF (by kernel_rfl) 25 _ _ rfl Try.in25 #[vs] (by simp [Act.eval]) ?_
      refine (short_any vs (formL l) l wr HVs.out HByF.out (by have := Hfs.out; omega) Hok.out Hch.out rfl).mono ?_
      rintro e w12 ⟨rfl, hb12⟩
      refine ⟨_, rfl, ?_⟩
      have B12 : Keep (Below w9.heap.size w9 w12) := ⟨Bl.out.trans (hb12.mono Bl.out.size)⟩
      clear hb12
      simp only [Act.put, List.setIfInBounds_toArray, List.set_cons_zero, List.set_cons_succ]
      refine WL.val (by kernel_rfl) (.bool true) (by go_simp) ?_
      simp only [Act.put, List.setIfInBounds_toArray, List.set_cons_zero, List.set_cons_succ]
      refine WL.callF (by kernel_rfl) 17 _ _ rfl Try.in17 #[] (by simp) ?_
      refine (fixed_any w12).mono ?_
      rintro e w13 ⟨rfl, hb13⟩
      refine ⟨_, rfl, ?_⟩
      have B13 : Keep (Below w9.heap.size w9 w13) := ⟨B12.out.trans (hb13.mono B12.out.size)⟩
      clear hb13
      simp only [Act.put, List.setIfInBounds_toArray, List.set_cons_zero, List.set_cons_succ]
      refine WL.val (by kernel_rfl) (.bool true) (by go_simp) ?_
      simp only [Act.put, List.setIfInBounds_toArray, List.set_cons_zero, List.set_cons_succ]
      refine WL.val (by kernel_rfl) (.bool true) (by go_simp) ?_
      simp only [Act.put, List.setIfInBounds_toArray, List.set_cons_zero, List.set_cons_succ]
      refine WL.nil ?_
      refine hK29 _ _ ?_
      refine wp_ret ?_
      go_ret
      exact ⟨rfl, B9w.out.trans (B13.out.mono B9w.out.size)⟩
  · rw [if_neg hE] at h1
    have HO3 := Keep.mk h1
    clear h1
    generalize (chk l).1 = E at *
    simp only [Act.put, List.setIfInBounds_toArray, List.set_cons_zero, List.set_cons_succ]
    refine WL.val (by kernel_rfl) (.int .i64 E) (by go_simp) ?_
    simp only [Act.put, List.setIfInBounds_toArray, List.set_cons_zero, List.set_cons_succ]
    refine WL.nil ?_
    refine hK6 _ _ ?_
    refine wp_seq_k fun K30 hK30 => ?_
    refine wp_seq_k fun K31 hK31 => ?_
    refine wp_region_list (WL.out ?_)
    refine WL.val (by kernel_rfl) (.int .i64 E) (by go_simp) ?_
    simp only [Act.put, List.setIfInBounds_toArray, List.set_cons_zero, List.set_cons_succ]
    refine WL.val (by kernel_rfl) (.bool true) (by go_simp) ?_
    simp only [Act.put, List.setIfInBounds_toArray, List.set_cons_zero, List.set_cons_succ]
    refine WL.nil ?_
    refine hK31 _ _ ?_
    refine wp_cond_true rfl ?_
    refine wp_seq_k fun K32 hK32 => ?_
    refine wp_region_list (WL.out ?_)
    refine WL.val (by kernel_rfl) (.pointer (some ⟨q, 0, none⟩)) (by go_simp) ?_
    simp only [Act.put, List.setIfInBounds_toArray, List.set_cons_zero, List.set_cons_succ]
    refine WL.callF (by kernel_rfl) 21 _ _ rfl Try.in21 #[ptr q] (by simp [Act.eval]) ?_
    refine (olen_any q v3 A w3 HO3.out).mono ?_
    rintro e w4 ⟨rfl, hw4⟩
    refine ⟨_, rfl, ?_⟩
    rw [hw4]
    clear hw4 w4
    simp only [Act.put, List.setIfInBounds_toArray, List.set_cons_zero, List.set_cons_succ]
    refine WL.val (by kernel_rfl) (.slice aa A.length acp) (by go_simp) ?_
    simp only [Act.put, List.setIfInBounds_toArray, List.set_cons_zero, List.set_cons_succ]
    refine WL.val (by kernel_rfl) (.int .i64 (A.length : Int)) (by go_simp) ?_
    simp only [Act.put, List.setIfInBounds_toArray, List.set_cons_zero, List.set_cons_succ]
    refine WL.val (by kernel_rfl) (.bool true) (by go_simp) ?_
    simp only [Act.put, List.setIfInBounds_toArray, List.set_cons_zero, List.set_cons_succ]
    refine WL.val (by kernel_rfl) (.bool true) (by go_simp) ?_
    simp only [Act.put, List.setIfInBounds_toArray, List.set_cons_zero, List.set_cons_succ]
    refine WL.callF (by kernel_rfl) 17 _ _ rfl Try.in17 #[] (by simp) ?_
    refine (fixed_any w3).mono ?_
    rintro e w4 ⟨rfl, hb4⟩
    refine ⟨_, rfl, ?_⟩
    have B4 : Keep (Below w.heap.size w w4) := ⟨B3.out.trans (hb4.mono B3.out.size)⟩
    clear hb4
    simp only [Act.put, List.setIfInBounds_toArray, List.set_cons_zero, List.set_cons_succ]
    refine WL.val (by kernel_rfl) (.bool true) (by go_simp) ?_
    simp only [Act.put, List.setIfInBounds_toArray, List.set_cons_zero, List.set_cons_succ]
    refine WL.val (by kernel_rfl) (.bool true) (by go_simp) ?_
    simp only [Act.put, List.setIfInBounds_toArray, List.set_cons_zero, List.set_cons_succ]
    refine WL.nil ?_
    refine hK32 _ _ ?_
    refine wp_ret ?_
    go_ret
    exact ⟨rfl, B4.out⟩
end Go.Proofs.Ytkjjlfpghhefcab
