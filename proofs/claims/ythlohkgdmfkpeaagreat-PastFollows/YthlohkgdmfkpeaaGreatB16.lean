import Derived.Test.YthlohkgdmfkpeaaGreatB15
namespace Go.Proofs.YthlohkgdmfkpeaaGreat
open Go.RowKit
set_option linter.unusedSimpArgs false
set_option linter.unusedVariables false

theorem Tryz.in51 (w : World) (vs : Array Value) : (callFunc 51 vs).run Tryz.prog w = .ok (.enter 51 vs) w := by kernel_rfl
structure WJ (l n : Nat) (P : Program) (ops : Array Oper) (Q : Exit → Act → World → Prop) (L : List Oper) (a : Act) (w : World) : Prop where
 out : wpListIn (Fence.wide.inRound l) n P ops Q L a w
section
variable {l n : Nat} {P : Program} {ops : Array Oper} {rest : List Oper} {o : Oper} {a : Act} {w : World} {Q : Exit → Act → World → Prop}
theorem WJ.nil (h : Q .normal a w) : WJ l n P ops Q [] a w := ⟨h⟩
theorem WJ.op (hw : Region.wanted o (yielded ops a.tmps) = true) (hd : ∀ c, o.op ≠ .defer c) (h : ∀ K : Act → World → Prop, (∀ a w, WJ l n P ops Q rest a w → K a w) → o.wp P a w K Q) : WJ l n P ops Q (o :: rest) a w :=
 ⟨by
  unfold wpListIn
  rw [if_pos hw]
  exact op_in (.inr ⟨l, rfl⟩) hd (fun a w (h : WJ l n P ops Q rest a w) => h.out) (h _ fun a w h => h)⟩
theorem WJ.skip (hw : Region.wanted o (yielded ops a.tmps) = false) (h : WJ l n P ops Q rest (a.put o.dst undef) w) : WJ l n P ops Q (o :: rest) a w :=
 ⟨by
  unfold wpListIn
  rw [if_neg (by rw [hw]; decide)]
  exact ⟨fun _ _ => trivial, h.out⟩⟩
theorem WJ.val (hw : Region.wanted o (yielded ops a.tmps) = true) (hd : ∀ c, o.op ≠ .defer c) (v : Value) (hrun : (execOp a.eval o).run P w = .ok (.value v) w) (h : WJ l n P ops Q rest (a.put o.dst v) w) : WJ l n P ops Q (o :: rest) a w :=
 WJ.op hw hd fun K hK => by unfold Oper.wp; rw [hrun, Oper.upon_value]; exact hK _ _ h
theorem WJ.midA (hw : Region.wanted o (yielded ops a.tmps) = true) (ty : TypeId) (x : Operand) (ho : o.op = .load ty x)
  (b of : Nat) (hx : a.eval x = .pointer (some ⟨b, of, none⟩)) (cs : Array Value) (d : TypeDesc) (hc : w.rangeAt b of cs.toList)
  (hu : P.underlying ty = some d) (hd : d.isRow = true) (hi : (P.info? ty).map (·.size) = some cs.size)
  (h : WJ l n P ops Q rest (a.put o.dst (.agg cs)) w) : WJ l n P ops Q (o :: rest) a w :=
 WJ.op hw (fun c e => by rw [ho] at e; cases e) fun K hK => wp_load_mid ty x ho b of hx cs.toList d hc hu hd (by rw [Array.length_toList]; exact hi) (hK _ _ (by rw [Array.toArray_toList]; exact h))
theorem WJ.callF (hw : Region.wanted o (yielded ops a.tmps) = true) (f : FuncId) (args : Array Operand) (ts : Array TypeId) (ho : o.op = .call { callee := .value (.func f), args := args, argTypes := ts })
  (hf : ∀ (w : World) (vs : Array Value), (callFunc f vs).run P w = .ok (.enter f vs) w) (vs : Array Value) (hvs : args.map a.eval = vs)
  (hc : Calls P f vs w fun e w' => ∃ v, e = .returned v ∧ WJ l n P ops Q rest (a.put o.dst v) w') : WJ l n P ops Q (o :: rest) a w :=
 WJ.op hw (fun c e => by rw [ho] at e; cases e) fun K hK => wp_callF f args ts ho hf vs hvs _ hc fun v w' h => hK _ _ h
theorem WJ.yield (hw : Region.wanted o (yielded ops a.tmps) = true) (k : Nat) (x : Operand) (args : Array Operand) (ts : Array TypeId) (ho : o.op = .call { callee := .value x, args := args, argTypes := ts }) (hx : a.eval x = .func (.yield k) #[] #[]) (vs : Array Value) (hvs : args.map a.eval = vs)
  {R : Ending → World → Prop} (hy : YieldAt Fence.wide (n - 1) P k vs w R) (h : ∀ e w', R e w' → ∃ v, e = .returned v ∧ WJ l n P ops Q rest (a.put o.dst v) w') : WJ l n P ops Q (o :: rest) a w :=
 ⟨by
  unfold wpListIn
  rw [if_pos hw]
  obtain ⟨fn, tmps, asg, bd, hr, hR⟩ := hy
  refine ⟨fun _ _ => trivial, ?_⟩
  have hrun : (execOp a.eval o).run P w = .ok (.round k fn tmps asg bd) w := by
   simp [execOp, ho, resolve, hx, hvs, invoke, Deferred.ofValue, hr]
  show o.uponIn (Fence.wide.inRound l) n P a _ Q ((Oper.semAt (some l) a.eval o).run P w)
  rw [Oper.semAt_some l a.eval o (fun c e => by rw [ho] at e; cases e), hrun, Oper.uponIn_round]
  refine ⟨fun h => (by cases h), ?_⟩
  have hR' := hR.mono fun e w' hq => h e w' hq
  refine RoundIn.mono (F := Fence.wide.inRound l) hR' fun e w' hq => ?_
  obtain ⟨v, rfl, h2⟩ := hq
  exact h2.out⟩
end
def encX (x : Nat × EP) : Array Value := #[.agg (entA x.2.1.id.f x.2.1.N.au x.2.1.N.ck x.2.2.1 x.2.2.2)]
set_option maxRecDepth 8000 in
theorem among_any (p : Nat) (ia : Option Addr) (il ic : Nat) (w : World) : Calls Tryz.prog 51 #[.pointer (some ⟨p, 0, none⟩), .slice ia il ic] w fun e w' => ∃ b2 b3, e = .returned (.func (.func 69) #[] #[.pointer (some ⟨b2, 0, none⟩), .pointer (some ⟨b3, 0, none⟩)]) ∧ Blk w' b2 25 #[.pointer (some ⟨p, 0, none⟩)] ∧ Blk w' b3 100 #[.slice ia il ic] ∧ Below w.heap.size w w' ∧ w.heap.size ≤ b2 ∧ w.heap.size ≤ b3 := by
 go_enter Tryz.func51, Tryz.ntmps51
 refine wp_seq_k fun K1 hK1 => rgn ?_
 refine WL.valW (by kernel_rfl) (.pointer (some ⟨w.heap.size, 0, none⟩)) (w.alloc (.cells #[.pointer (some ⟨p, 0, none⟩)] 25)) (by go_simp) ?_
 obtain ⟨w1, hw1⟩ : ∃ w1, Keep (w1 = w.alloc (.cells #[.pointer (some ⟨p, 0, none⟩)] 25)) := ⟨_, ⟨rfl⟩⟩
 rw [← hw1.out]
 simp only [Act.put, pqA, pqB, pqC]
 refine WL.valW (by kernel_rfl) (.pointer (some ⟨w1.heap.size, 0, none⟩)) (w1.alloc (.cells #[.slice ia il ic] 100)) (by go_simp) ?_
 obtain ⟨w2, hw2⟩ : ∃ w2, Keep (w2 = w1.alloc (.cells #[.slice ia il ic] 100)) := ⟨_, ⟨rfl⟩⟩
 rw [← hw2.out]
 simp only [Act.put, pqA, pqB, pqC]
 refine VlS (.nilFunc) ?_
 refine WL.nil (hK1 _ _ ?_)
 refine wp_seq_k fun K2 hK2 => rgn ?_
 refine VlS (.func (.func 69) #[] #[.pointer (some ⟨w.heap.size, 0, none⟩), .pointer (some ⟨w1.heap.size, 0, none⟩)]) ?_
 refine VlS (.func (.func 69) #[] #[.pointer (some ⟨w.heap.size, 0, none⟩), .pointer (some ⟨w1.heap.size, 0, none⟩)]) ?_
 refine WL.nil (hK2 _ _ ?_)
 refine wp_ret ?_
 go_ret
 have h1 : Blk w1 w.heap.size 25 #[.pointer (some ⟨p, 0, none⟩)] := by rw [hw1.out]; exact Blk.new _ _ _
 have b1 : Below w.heap.size w w1 := by rw [hw1.out]; exact below_new _ _
 have h2 : Blk w2 w1.heap.size 100 #[.slice ia il ic] := by rw [hw2.out]; exact Blk.new _ _ _
 have b2 : Below w1.heap.size w1 w2 := by rw [hw2.out]; exact below_new _ _
 exact ⟨_, _, rfl, h1.below b2 h1.lt, h2, belowC b1 b2, Nat.le_refl _, b1.size⟩
theorem FreshE.other {wb W W' : World} {row : Option Nat} {x : EX} {p q : Value} (h : FreshE wb W x p q) (hg : W.grownBy W' row) (hr : ∀ r, row = some r → wb.heap.size ≤ r ∧ ∃ o : Obj, W.heap[r]? = some o ∧ o.isCells = false) : FreshE wb W' x p q := by
 have hG : Grown W W' fun k => row = some k := Grown.of hg fun k _ e => e
 have hT : ∀ k T, Typ W k T → row ≠ some k := fun k T ht e => by
  obtain ⟨_, o, ho, hc⟩ := hr k e
  obtain ⟨cs, fz, h1⟩ := ht
  rw [h1] at ho
  cases ho
  cases hc
 exact h.grown hG (fun k hk e => hT k _ (h.ps.typ hk) e) (fun k hk e => hT k _ (owns_typ h.ops k hk) e) (h.bel.trans (hG.to_below (fun k hk e => by have := (hr k e).1; omega) h.bel.size))
def KpC (n0 : Nat) (A B : World) : Prop := Below n0 A B ∧ ∀ k T cs, (T = 126 ∨ T = 100 ∨ T = 93) → Blk A k T cs → Blk B k T cs
theorem KpC.trans {n0 : Nat} {A B C : World} (h : KpC n0 A B) (k : KpC n0 B C) : KpC n0 A C := ⟨h.1.trans k.1, fun b T cs hT hb => k.2 b T cs hT (h.2 b T cs hT hb)⟩
theorem blk_other {W W' : World} {row : Option Nat} {k T : Nat} {cs : Array Value} (h : Blk W k T cs) (hg : W.grownBy W' row) (hr : ∀ r, row = some r → ∃ o : Obj, W.heap[r]? = some o ∧ o.isCells = false) : Blk W' k T cs :=
 (Grown.of (S := fun k => row = some k) hg fun k _ e => e).blk h fun e => by
  obtain ⟨o, ho, hc⟩ := hr k e
  unfold Blk at h
  rw [h] at ho
  cases ho
  cases hc
set_option maxRecDepth 8000 in
set_option maxHeartbeats 4000000 in
theorem among_told (n b2 b3 gi : Nat) (Iw : List Nat) (H : List EP) (S : List (Nat × List Nat)) (v : Value) (p mb ub : Nat) (wb w : World) (hR : PastRd wb p H S v mb ub) (h2 : Blk w b2 25 #[.pointer (some ⟨p, 0, none⟩)]) (h3 : Blk w b3 100 #[.slice (some ⟨gi, 0, none⟩) Iw.length Iw.length]) (hI : Blk w gi 93 (wdV Iw).toArray) (hIw : Wds Iw) (hIl : Iw.length ≤ 1000000) (hb : Below wb.heap.size wb w) :
  Told n Tryz.prog 69 #[.pointer (some ⟨b2, 0, none⟩), .pointer (some ⟨b3, 0, none⟩)] encX (fun x X => FxN wb H x X ∧ hasW Iw x.1 = true) (KpC wb.heap.size) (fun xs => xs.map (·.1) = (List.range H.length).filter (hasW Iw)) H.length w := by
 intro l J W hW hJ hY h0
 have HR := Keep.mk hR
 have H2 := Keep.mk (h2.below hW h2.lt)
 have H3 := Keep.mk (h3.below hW h3.lt)
 have HI0 := Keep.mk (hI.below hW hI.lt)
 have HIw := Keep.mk hIw
 have HIl := Keep.mk hIl
 have HJ := Keep.mk hJ
 have HB : Keep (Below wb.heap.size wb W) := ⟨belowC hb hW⟩
 clear hR h2 h3 hI hIw hIl hJ hW hb
 refine callsIn_of_wp_marks Tryz.func69 rfl trivial ?_ rfl
 refine wpIn_wide.2 ?_
 simp only [Tryz.ntmps69, List.size_toArray, List.length_cons, List.length_nil, Nat.reduceAdd, Nat.reduceSub, Array.replicate_succ, Array.replicate_zero, List.push_toArray, List.append_toArray, List.nil_append, List.cons_append]
 refine wp_seq_k fun K1 hK1 => rgn ?_
 refine WL.valW (by kernel_rfl) (.pointer (some ⟨W.heap.size, 0, none⟩)) (W.alloc (.cells #[.func (.yield l) #[] #[]] 126)) (by go_simp) ?_
 obtain ⟨w1, hw1⟩ : ∃ w1, Keep (w1 = W.alloc (.cells #[.func (.yield l) #[] #[]] 126)) := ⟨_, ⟨rfl⟩⟩
 rw [← hw1.out]
 have H1 : Keep (Blk w1 W.heap.size 126 #[.func (.yield l) #[] #[]]) := ⟨by rw [hw1.out]; exact Blk.new _ _ _⟩
 have B1 : Keep (Below W.heap.size W w1) := ⟨by rw [hw1.out]; exact below_new _ _⟩
 clear hw1
 have HJ1 : Keep (J [] w1) := ⟨abides_below HJ.out h0 B1.out⟩
 have LB1 := Keep.mk (belowC HB.out B1.out)
 have c2 : w1.cell? ⟨b2, 0, none⟩ = some (.pointer (some ⟨p, 0, none⟩)) := (H2.out.below B1.out H2.out.lt).c 0 rfl
 simp only [Act.put, pqA, pqB, pqC]
 refine WL.nil (hK1 _ _ ?_)
 refine wp_seq_k fun K2 hK2 => rgn ?_
 refine VlS (.pointer (some ⟨p, 0, none⟩)) ?_
 refine WL.callF (by kernel_rfl) 11 _ _ rfl Tryz.in11 #[.pointer (some ⟨p, 0, none⟩)] (by simp [Act.eval]) ?_
 refine (all_any p w1).mono ?_
 rintro e w2 ⟨rfl, hw2⟩
 refine ⟨_, rfl, ?_⟩
 have HBs : Keep (Blk w2 w1.heap.size 25 #[.pointer (some ⟨p, 0, none⟩)]) := ⟨by rw [hw2]; exact Blk.new _ _ _⟩
 have B2 : Keep (Below w1.heap.size w1 w2) := ⟨by rw [hw2]; exact below_new _ _⟩
 clear hw2 c2
 have HJ2 : Keep (J [] w2) := ⟨abides_below HJ.out HJ1.out B2.out⟩
 have LB2 := Keep.mk (belowC LB1.out B2.out)
 have HY2 := Keep.mk (H1.out.below B2.out H1.out.lt)
 have H3a := Keep.mk (H3.out.below B1.out H3.out.lt)
 have H3b := Keep.mk (H3a.out.below B2.out H3a.out.lt)
 have HIa := Keep.mk (HI0.out.below B1.out HI0.out.lt)
 have HIb := Keep.mk (HIa.out.below B2.out HIa.out.lt)
 have sz : Keep (W.heap.size ≤ w2.heap.size) := ⟨Nat.le_trans B1.out.size B2.out.size⟩
 obtain ⟨by_, hby⟩ : ∃ b, Keep (b = W.heap.size) := ⟨_, ⟨rfl⟩⟩
 rw [← hby.out] at HY2
 obtain ⟨Bs, hBs⟩ : ∃ b, Keep (b = w1.heap.size) := ⟨_, ⟨rfl⟩⟩
 rw [← hBs.out] at HBs
 rw [← hby.out, ← hBs.out]
 clear H1 B1 HJ1 LB1 B2
 simp only [Act.put, pqA, pqB, pqC]
 refine WL.nil (hK2 _ _ ?_)
 refine wp_block ?_
 refine (wpIn_wide (n := n + 2)).1 ?_
 refine range_told (n := n + 2) (by omega) (gf := 35) (lb := #[.pointer (some ⟨Bs, 0, none⟩)]) rfl (enters_of Tryz.func35 (by kernel_rfl) rfl) (all_told (n + 1) Bs H S v p mb ub wb w2 HR.out LB2.out HBs.out) (fun _ _ _ h k => h.trans k) (fun X r r' hr => belowK_b (w := w2) LB2.out.size X _ _ _ (by omega) hr.l rfl rfl) (Below.refl _ _) (fun _ => rfl) (fun (pre : List (Nat × EP)) (X : World) => J (pre.filter fun x => hasW Iw x.1) X ∧ Below wb.heap.size wb X ∧ Blk X by_ 126 #[.func (.yield l) #[] #[]] ∧ Blk X b3 100 #[.slice (some ⟨gi, 0, none⟩) Iw.length Iw.length] ∧ Blk X gi 93 (wdV Iw).toArray) ?own ⟨HJ2.out, LB2.out, HY2.out, H3b.out, HIb.out⟩ (fun pre x a' X => ∃ Bx, Blk X Bx 52 (entA x.2.1.id.f x.2.1.N.au x.2.1.N.ck x.2.2.1 x.2.2.2) ∧ a' = { tmps := #[.func (.yield l) #[] #[], .pointer (some ⟨b2, 0, none⟩), .pointer (some ⟨b3, 0, none⟩), .pointer (some ⟨by_, 0, none⟩), .int .i64 (x.1 : Int), .pointer (some ⟨Bx, 0, none⟩), .pointer (some ⟨p, 0, none⟩), .func (.func 35) #[] #[.pointer (some ⟨Bs, 0, none⟩)], .int .i64 (x.1 : Int), .agg (entA x.2.1.id.f x.2.1.N.au x.2.1.N.ck x.2.2.1 x.2.2.2), undef, undef, undef, undef, undef, undef, undef, undef, undef], defers := [] } ∧ (fun (pre : List (Nat × EP)) (X : World) => J (pre.filter fun x => hasW Iw x.1) X ∧ Below wb.heap.size wb X ∧ Blk X by_ 126 #[.func (.yield l) #[] #[]] ∧ Blk X b3 100 #[.slice (some ⟨gi, 0, none⟩) Iw.length Iw.length] ∧ Blk X gi 93 (wdV Iw).toArray) pre X ∧ FxN wb H x X ∧ pre.length < H.length) ?ax ?assign ?body ?done
 case own =>
  intro pre X Y row h hg hr
  exact ⟨HJ.out _ X Y row h.1 hg fun r e => ⟨by have := (hr r e).1; have := sz.out; omega, (hr r e).2⟩, h.2.1.trans ((Grown.of (S := fun k => row = some k) hg fun k _ e => e).to_below (fun k hk e => by have := (hr k e).1; have := LB2.out.size; omega) h.2.1.size), blk_other h.2.2.1 hg fun r e => (hr r e).2, blk_other h.2.2.2.1 hg fun r e => (hr r e).2, blk_other h.2.2.2.2 hg fun r e => (hr r e).2⟩
 case ax =>
  rintro pre x a' ⟨⟩ X Y row ⟨Bx, h1, h2, h3, h4, h5⟩ hg hr
  exact ⟨Bx, blk_other h1 hg fun r e => (hr r e).2, h2, ⟨HJ.out _ X Y row h3.1 hg fun r e => ⟨by have := (hr r e).1; have := sz.out; omega, (hr r e).2⟩, h3.2.1.trans ((Grown.of (S := fun k => row = some k) hg fun k _ e => e).to_below (fun k hk e => by have := (hr k e).1; have := LB2.out.size; omega) h3.2.1.size), blk_other h3.2.2.1 hg fun r e => (hr r e).2, blk_other h3.2.2.2.1 hg fun r e => (hr r e).2, blk_other h3.2.2.2.2 hg fun r e => (hr r e).2⟩, ⟨h4.1, h4.2.other hg fun r e => ⟨by have := (hr r e).1; have := LB2.out.size; omega, (hr r e).2⟩⟩, h5⟩
 case assign =>
  rintro l2 pre ⟨i, ex, pv, qv⟩ X K hI hF hlen hK
  simp only [encN, List.zip_toArray, List.zip_cons_cons, List.zip_nil_right, List.zip_nil_left, List.foldl_toArray, List.foldl_cons, List.foldl_nil, List.setIfInBounds_toArray, List.set_cons_zero, List.set_cons_succ]
  obtain ⟨pa, pc, hpv⟩ := hF.2.nd.ps.form
  obtain ⟨qa, qc, hqv⟩ := hF.2.nd.ops.form
  have Hpv := Keep.mk hpv
  have Hqv := Keep.mk hqv
  clear hpv hqv
  refine wpIn_seq_k fun K3 hK3 => ?_
  refine region_in (by kernel_rfl) (fun ⟨_, _, h⟩ => h) (WL.out ?_)
  refine VlS (.int .i64 (i : Int)) ?_
  refine WL.nil (hK3 _ _ ?_)
  refine region_in (by kernel_rfl) (fun ⟨_, _, h⟩ => h) (WL.out ?_)
  refine WL.new (by kernel_rfl) 52 rfl (entA (fun _ => 0) 0 0 (.slice none 0 0) (.slice none 0 0)) Tryz.new52 ?_
  obtain ⟨wz, hwn⟩ : ∃ wx, Keep (wx = X.alloc (.cells (entA (fun _ => 0) 0 0 (.slice none 0 0) (.slice none 0 0)) 52)) := ⟨_, ⟨rfl⟩⟩
  rw [← hwn.out]
  have HZ : Keep (Blk wz X.heap.size 52 (entA (fun _ => 0) 0 0 (.slice none 0 0) (.slice none 0 0))) := ⟨by rw [hwn.out]; exact Blk.new _ _ _⟩
  have LB : Keep (Below X.heap.size X wz) := ⟨by rw [hwn.out]; exact below_new _ _⟩
  clear hwn
  simp only [Act.put, pqA, pqB, pqC]
  refine WL.storeR (by kernel_rfl) 52 (.tmp 5) (.tmp 9) rfl X.heap.size (entA ex.id.f ex.N.au ex.N.ck pv qv) rfl rfl 52 _ HZ.out (sizeE _ _ _ _ _) (by rw [entA_size, entA_size]) (entA_one _ _ _ _ _ ((congrArg Value.oneCell' Hpv.out).trans rfl) ((congrArg Value.oneCell' Hqv.out).trans rfl)) ?_
  have HX := Keep.mk (HZ.out.setRow (entA ex.id.f ex.N.au ex.N.ck pv qv))
  have LX : Keep (Below X.heap.size X (wz.setRow X.heap.size (entA ex.id.f ex.N.au ex.N.ck pv qv))) := ⟨below_setRow LB.out (Nat.le_refl _) _⟩
  generalize wz.setRow X.heap.size (entA ex.id.f ex.N.au ex.N.ck pv qv) = wx at *
  clear HZ LB
  simp only [Act.put]
  refine WL.nil ?_
  refine hK _ _ (keeps_grown (Grown.below (S := fun _ => False) LX.out) (fun _ h => h.elim) _) (LX.out.mono hI.2.1.size) ⟨X.heap.size, HX.out, rfl, ⟨abides_below HJ.out hI.1 LX.out, belowC hI.2.1 LX.out, hI.2.2.1.below LX.out hI.2.2.1.lt, hI.2.2.2.1.below LX.out hI.2.2.2.1.lt, hI.2.2.2.2.below LX.out hI.2.2.2.2.lt⟩, ⟨hF.1, hF.2.below LX.out⟩, hlen⟩
 case body =>
  rintro l2 pre ⟨i, ex, pv, qv⟩ a' X hl - ⟨Bx, hX, rfl, hI, hF, hlen⟩
  show Code.wpIn _ _ _ _ _ { tmps := #[.func (.yield l) #[] #[], .pointer (some ⟨b2, 0, none⟩), .pointer (some ⟨b3, 0, none⟩), .pointer (some ⟨by_, 0, none⟩), .int .i64 (i : Int), .pointer (some ⟨Bx, 0, none⟩), .pointer (some ⟨p, 0, none⟩), .func (.func 35) #[] #[.pointer (some ⟨Bs, 0, none⟩)], .int .i64 (i : Int), .agg (entA ex.id.f ex.N.au ex.N.ck pv qv), undef, undef, undef, undef, undef, undef, undef, undef, undef], defers := [] } X
  have hil : i < H.length := by have h := (List.getElem?_eq_some_iff.1 hF.1).1; rwa [exs_len] at h
  have hfl : (pre.filter fun x => hasW Iw x.1).length < H.length := Nat.lt_of_le_of_lt (List.length_filter_le _ _) hlen
  have c3 : X.cell? ⟨b3, 0, none⟩ = some (.slice (some ⟨gi, 0, none⟩) Iw.length Iw.length) := hI.2.2.2.1.c 0 rfl
  have cy : X.cell? ⟨by_, 0, none⟩ = some (.func (.yield l) #[] #[]) := hI.2.2.1.c 0 rfl
  have HX := Keep.mk hX
  have HI := Keep.mk hI
  have HF := Keep.mk hF
  clear hX hI hF
  refine wpIn_block ?_
  refine wpIn_seq_k fun K1 hK1 => ?_
  refine wpIn_region_list (WJ.out ?_)
  refine WJ.val (by kernel_rfl) (fun c e => by cases e) (.slice (some ⟨gi, 0, none⟩) Iw.length Iw.length) (by go_simp) ?_
  simp only [Act.put, pqA, pqB, pqC]
  refine WJ.val (by kernel_rfl) (fun c e => by cases e) (.int .i64 (i : Int)) (by go_simp) ?_
  simp only [Act.put, pqA, pqB, pqC]
  refine WJ.callF (by kernel_rfl) 54 _ _ rfl Tryz.in54 #[.slice (some ⟨gi, 0, none⟩) Iw.length Iw.length, .int .i64 (i : Int)] (by simp [Act.eval]) ?_
  refine (has_set gi i Iw X HI.out.2.2.2.2 (by have := HR.out.n; omega) HIl.out HIw.out).mono ?_
  rintro e wq ⟨rfl, rfl⟩
  refine ⟨_, rfl, ?_⟩
  rcases Bool.eq_false_or_eq_true (hasW Iw i) with hh | hh
  ·rw [hh]
   simp only [Act.put, pqA, pqB, pqC]
   refine WJ.val (by kernel_rfl) (fun c e => by cases e) (.bool true) (by go_simp) ?_
   simp only [Act.put, pqA, pqB, pqC]
   refine WJ.val (by kernel_rfl) (fun c e => by cases e) (.func (.yield l) #[] #[]) (by go_simp) ?_
   simp only [Act.put, pqA, pqB, pqC]
   refine WJ.midA (by kernel_rfl) 52 (.tmp 5) rfl Bx 0 rfl (entA ex.id.f ex.N.au ex.N.ck pv qv) _ (blk_range HX.out) Tryz.underlying52 rfl (sizeE _ _ _ _ _) ?_
   simp only [Act.put, pqA, pqB, pqC]
   refine WJ.yield (by kernel_rfl) l (.tmp 14) _ _ rfl rfl (encX (i, (ex, (pv, qv)))) (by simp [Act.eval, encX]) (hY _ (i, (ex, (pv, qv))) wq HI.out.1 ⟨HF.out, hh⟩ hfl) ?_
   rintro e wz ⟨rfl, hJz, hKz, hFz⟩
   refine ⟨_, rfl, ?_⟩
   simp only [Act.put, pqA, pqB, pqC]
   refine WJ.val (by kernel_rfl) (fun c e => by cases e) (.bool false) (by go_simp) ?_
   simp only [Act.put, pqA, pqB, pqC]
   refine WJ.val (by kernel_rfl) (fun c e => by cases e) (.bool false) (by go_simp) ?_
   simp only [Act.put, pqA, pqB, pqC]
   refine WJ.nil ?_
   refine hK1 _ _ ?_
   refine wpIn_cond_false rfl ?_
   refine wpIn_skip ?_
   have hfil : (pre ++ [(i, (ex, (pv, qv)))]).filter (fun x => hasW Iw x.1) = (pre.filter fun x => hasW Iw x.1) ++ [(i, (ex, (pv, qv)))] := by rw [List.filter_append]; simp [hh]
   exact ⟨rfl, keepsFrom_mono hFz sz.out, hKz.1, by rw [hfil]; exact hJz, HI.out.2.1.trans hKz.1, hKz.2 _ _ _ (.inl rfl) HI.out.2.2.1, hKz.2 _ _ _ (.inr (.inl rfl)) HI.out.2.2.2.1, hKz.2 _ _ _ (.inr (.inr rfl)) HI.out.2.2.2.2⟩
  ·rw [hh]
   simp only [Act.put, pqA, pqB, pqC]
   refine WJ.val (by kernel_rfl) (fun c e => by cases e) (.bool false) (by go_simp) ?_
   simp only [Act.put, pqA, pqB, pqC]
   refine WJ.skip (by kernel_rfl) ?_
   simp only [Act.put, pqA, pqB, pqC]
   refine WJ.skip (by kernel_rfl) ?_
   simp only [Act.put, pqA, pqB, pqC]
   refine WJ.skip (by kernel_rfl) ?_
   simp only [Act.put, pqA, pqB, pqC]
   refine WJ.skip (by kernel_rfl) ?_
   simp only [Act.put, pqA, pqB, pqC]
   refine WJ.val (by kernel_rfl) (fun c e => by cases e) (.bool false) (by go_simp) ?_
   simp only [Act.put, pqA, pqB, pqC]
   refine WJ.nil ?_
   refine hK1 _ _ ?_
   refine wpIn_cond_false rfl ?_
   refine wpIn_skip ?_
   have hfil : (pre ++ [(i, (ex, (pv, qv)))]).filter (fun x => hasW Iw x.1) = pre.filter fun x => hasW Iw x.1 := by rw [List.filter_append]; simp [hh]
   exact ⟨rfl, KeepsFrom.refl _ _, Below.refl _ _, by rw [hfil]; exact HI.out.1, HI.out.2⟩
 case done =>
  rintro D xs X hD hS hI hKd
  show Exit.inBlock 0 (bodyPostM _ _ _ _ _) .normal _ _
  refine ⟨by simp, .inl ⟨_, _, rfl, run_takeDeferred hKd, ?_⟩⟩
  refine ⟨_, results_none rfl _ _ _, ⟨_, rfl⟩, xs.filter (fun x => hasW Iw x.1), ?_, ?_⟩
  ·rw [← hS, List.filter_map]; rfl
  ·exact OwnFrom.putObj HJ.out _ hI.1 (by have := sz.out; omega) hKd rfl
theorem Tryz.in68 (w : World) (vs : Array Value) : (callFunc 68 vs).run Tryz.prog w = .ok (.enter 68 vs) w := by kernel_rfl
theorem Tryz.in50 (w : World) (vs : Array Value) : (callFunc 50 vs).run Tryz.prog w = .ok (.enter 50 vs) w := by kernel_rfl
theorem OwnL.grown {w wr wr' : World} {v : Value} {H : List EP} {S : Nat → Prop} (h : OwnL w wr v H) (hg : Grown wr wr' S) (hS : ∀ k T, Typ wr k T → (T = 52 ∨ T = 36 ∨ T = 119) → ¬ S k) (hb : Below w.heap.size w wr') : OwnL w wr' v H :=
 ⟨owns_grown h.own hg fun k hk => hS k _ (owns_typ h.own k hk) (.inl rfl), fun q hq => (h.ents q hq).grown hg (fun k hk => hS k _ ((h.ents q hq).ps.typ hk) (.inr (.inl rfl))) (fun k hk => hS k _ (owns_typ (h.ents q hq).ops k hk) (.inr (.inr rfl))) hb, hb⟩
theorem not_cells {W : World} {k T : Nat} {row : Option Nat} (h : Typ W k T) (hr : ∀ r, row = some r → ∃ o : Obj, W.heap[r]? = some o ∧ o.isCells = false) : row ≠ some k := fun e => by
 obtain ⟨o, ho, hc⟩ := hr k e
 obtain ⟨cs, fz, h1⟩ := h
 rw [h1] at ho
 cases ho
 cases hc
structure ColSt (wb : World) (bb : Nat) (H : List EP) (pre : List (Nat × EP)) (X : World) : Prop where
 box : ∃ u, Blk X bb 23 #[u] ∧ OwnL wb X u (pre.map (·.2))
 is : ∀ x ∈ pre, (exs H)[x.1]? = some x.2.1
 len : pre.length ≤ H.length
theorem ColSt.grown {wb : World} {bb : Nat} {H : List EP} {pre : List (Nat × EP)} {X Y : World} {S : Nat → Prop} (h : ColSt wb bb H pre X) (hg : Grown X Y S) (hS : ∀ k T, Typ X k T → (T = 52 ∨ T = 36 ∨ T = 119 ∨ T = 23) → ¬ S k) (hb : Below wb.heap.size wb Y) : ColSt wb bb H pre Y := by
 obtain ⟨u, h1, h2⟩ := h.box
 exact ⟨⟨u, hg.blk h1 (hS _ _ h1.typ (.inr (.inr (.inr rfl)))), h2.grown hg (fun k T ht hT => hS k T ht (by rcases hT with h | h | h; exact .inl h; exact .inr (.inl h); exact .inr (.inr (.inl h)))) hb⟩, h.is, h.len⟩
theorem ColSt.bel {wb : World} {bb : Nat} {H : List EP} {pre : List (Nat × EP)} {X : World} (h : ColSt wb bb H pre X) : Below wb.heap.size wb X := by
 obtain ⟨u, _, h2⟩ := h.box
 exact h2.bel
theorem ColSt.below {wb : World} {bb : Nat} {H : List EP} {pre : List (Nat × EP)} {X Y : World} (h : ColSt wb bb H pre X) (hb : Below X.heap.size X Y) : ColSt wb bb H pre Y := h.grown (Grown.below (S := fun _ => False) hb) (fun _ _ _ _ h => h) (belowC h.bel hb)
theorem ColSt.own {wb : World} {bb B : Nat} {H : List EP} (hB : wb.heap.size ≤ B) : OwnFrom B (fun (pre : List (Nat × EP)) X => ColSt wb bb H pre X) := fun pre X Y row h hg hr => by
 have hG : Grown X Y fun k => row = some k := Grown.of hg fun k _ e => e
 exact h.grown hG (fun k T ht _ e => not_cells ht (fun r e => (hr r e).2) e) (h.bel.trans (hG.to_below (fun k hk e => by have := (hr k e).1; omega) h.bel.size))
set_option maxRecDepth 8000 in
set_option maxHeartbeats 300000 in
theorem seq_any (b2 b3 gi : Nat) (Iw : List Nat) (H : List EP) (S : List (Nat × List Nat)) (v : Value) (p mb ub : Nat) (wb : World) (hR : PastRd wb p H S v mb ub) (h2 : Blk wb b2 25 #[.pointer (some ⟨p, 0, none⟩)]) (h3 : Blk wb b3 100 #[.slice (some ⟨gi, 0, none⟩) Iw.length Iw.length]) (hI : Blk wb gi 93 (wdV Iw).toArray) (hIw : Wds Iw) (hIl : Iw.length ≤ 1000000) : Calls Tryz.prog 68 #[.slice none 0 0, .func (.func 69) #[] #[.pointer (some ⟨b2, 0, none⟩), .pointer (some ⟨b3, 0, none⟩)]] wb fun e w' => ∃ (v' : Value) (xs : List (Nat × EP)), e = .returned v' ∧ OwnL wb w' v' (xs.map (·.2)) ∧ xs.map (·.1) = (List.range H.length).filter (hasW Iw) ∧ ∀ x ∈ xs, (exs H)[x.1]? = some x.2.1 := by
 have HR := Keep.mk hR
 have H2 := Keep.mk h2
 have H3 := Keep.mk h3
 have HI0 := Keep.mk hI
 have HIw := Keep.mk hIw
 have HIl := Keep.mk hIl
 clear hR h2 h3 hI hIw hIl
 refine (callsIn_wide (n := 3)).1 ?_
 refine callsIn_of_wp_marks Tryz.func68 rfl trivial ?_ rfl
 refine wpIn_wide.2 ?_
 simp only [Tryz.ntmps68, List.size_toArray, List.length_cons, List.length_nil, Nat.reduceAdd, Nat.reduceSub, Array.replicate_succ, Array.replicate_zero, List.push_toArray, List.append_toArray, List.nil_append, List.cons_append]
 refine wp_seq_k fun K1 hK1 => rgn ?_
 refine WL.valW (by kernel_rfl) (.pointer (some ⟨wb.heap.size, 0, none⟩)) (wb.alloc (.cells #[.slice none 0 0] 23)) (by go_simp) ?_
 obtain ⟨w1, hw1⟩ : ∃ w1, Keep (w1 = wb.alloc (.cells #[.slice none 0 0] 23)) := ⟨_, ⟨rfl⟩⟩
 rw [← hw1.out]
 have H1 : Keep (Blk w1 wb.heap.size 23 #[.slice none 0 0]) := ⟨by rw [hw1.out]; exact Blk.new _ _ _⟩
 have B1 : Keep (Below wb.heap.size wb w1) := ⟨by rw [hw1.out]; exact below_new _ _⟩
 clear hw1
 have C0 : Keep (ColSt wb wb.heap.size H [] w1) := ⟨⟨⟨_, H1.out, ⟨by simp, .inl ⟨rfl, rfl⟩⟩, (fun q hq => by cases hq), B1.out⟩, (fun x hx => by cases hx), by simp⟩⟩
 simp only [Act.put, pqA, pqB, pqC]
 refine VlS (.slice none 0 0) ?_
 refine WL.nil (hK1 _ _ ?_)
 refine wp_seq_k fun K2 hK2 => ?_
 refine wp_seq_k fun K3 hK3 => rgn ?_
 refine VlS (.func (.func 69) #[] #[.pointer (some ⟨b2, 0, none⟩), .pointer (some ⟨b3, 0, none⟩)]) ?_
 refine WL.nil (hK3 _ _ ?_)
 refine wp_block ?_
 obtain ⟨bb, hbb⟩ : ∃ b, Keep (b = wb.heap.size) := ⟨_, ⟨rfl⟩⟩
 have C1 : Keep (ColSt wb bb H [] w1) := ⟨by rw [hbb.out]; exact C0.out⟩
 rw [← hbb.out]
 clear C0 H1
 refine (wpIn_wide (n := 4)).1 ?_
 refine range_told (n := 4) (by omega) (gf := 69) (lb := #[.pointer (some ⟨b2, 0, none⟩), .pointer (some ⟨b3, 0, none⟩)]) rfl (enters_of Tryz.func69 (by kernel_rfl) rfl) (among_told 3 b2 b3 gi Iw H S v p mb ub wb w1 HR.out (H2.out.below B1.out H2.out.lt) (H3.out.below B1.out H3.out.lt) (HI0.out.below B1.out HI0.out.lt) HIw.out HIl.out B1.out) (fun _ _ _ h k => h.trans k) (fun X r r' hr => ⟨belowK_b (w := w1) B1.out.size X _ _ _ (by omega) hr.l rfl rfl, fun k T cs _ hk => (Grown.of (S := fun k => k = w1.heap.size + 1) (grownBy_putObj' X _ _) fun k _ e => by cases e; rfl).blk hk fun e => by subst e; have h1 := hr.l; unfold Blk at hk; rw [hk] at h1; cases h1⟩) (Below.refl _ _) (fun _ => rfl) (fun pre X => ColSt wb bb H pre X) (ColSt.own B1.out.size) C1.out (fun pre x a' X => ∃ Bx, Blk X Bx 52 (entA x.2.1.id.f x.2.1.N.au x.2.1.N.ck x.2.2.1 x.2.2.2) ∧ a' = { tmps := #[.slice none 0 0, .func (.func 69) #[] #[.pointer (some ⟨b2, 0, none⟩), .pointer (some ⟨b3, 0, none⟩)], .pointer (some ⟨bb, 0, none⟩), undef, .slice none 0 0, .pointer (some ⟨Bx, 0, none⟩), .func (.func 69) #[] #[.pointer (some ⟨b2, 0, none⟩), .pointer (some ⟨b3, 0, none⟩)], .agg (entA x.2.1.id.f x.2.1.N.au x.2.1.N.ck x.2.2.1 x.2.2.2), undef, undef, undef, undef, undef], defers := [] } ∧ ColSt wb bb H pre X ∧ FxN wb H x X ∧ pre.length < H.length) ?ax ?assign ?body ?done
 case ax =>
  rintro pre x a' ⟨⟩ X Y row ⟨Bx, h1, h2, h3, h4, h5⟩ hg hr
  exact ⟨Bx, blk_other h1 hg fun r e => (hr r e).2, h2, ColSt.own (B := w1.heap.size) B1.out.size pre X Y row h3 hg hr, ⟨h4.1, h4.2.other hg fun r e => ⟨by have := (hr r e).1; have := B1.out.size; omega, (hr r e).2⟩⟩, h5⟩
 case assign =>
  rintro l2 pre ⟨i, ex, pv, qv⟩ X K hI hF hlen hK
  simp only [encX, List.zip_toArray, List.zip_cons_cons, List.zip_nil_right, List.zip_nil_left, List.foldl_toArray, List.foldl_cons, List.foldl_nil, List.setIfInBounds_toArray, List.set_cons_zero, List.set_cons_succ]
  obtain ⟨pa, pc, hpv⟩ := hF.1.2.nd.ps.form
  obtain ⟨qa, qc, hqv⟩ := hF.1.2.nd.ops.form
  have Hpv := Keep.mk hpv
  have Hqv := Keep.mk hqv
  clear hpv hqv
  refine region_in (by kernel_rfl) (fun ⟨_, _, h⟩ => h) (WL.out ?_)
  refine WL.new (by kernel_rfl) 52 rfl (entA (fun _ => 0) 0 0 (.slice none 0 0) (.slice none 0 0)) Tryz.new52 ?_
  obtain ⟨wz, hwn⟩ : ∃ wx, Keep (wx = X.alloc (.cells (entA (fun _ => 0) 0 0 (.slice none 0 0) (.slice none 0 0)) 52)) := ⟨_, ⟨rfl⟩⟩
  rw [← hwn.out]
  have HZ : Keep (Blk wz X.heap.size 52 (entA (fun _ => 0) 0 0 (.slice none 0 0) (.slice none 0 0))) := ⟨by rw [hwn.out]; exact Blk.new _ _ _⟩
  have LB : Keep (Below X.heap.size X wz) := ⟨by rw [hwn.out]; exact below_new _ _⟩
  clear hwn
  simp only [Act.put, pqA, pqB, pqC]
  refine WL.storeR (by kernel_rfl) 52 (.tmp 5) (.tmp 7) rfl X.heap.size (entA ex.id.f ex.N.au ex.N.ck pv qv) rfl rfl 52 _ HZ.out (sizeE _ _ _ _ _) (by rw [entA_size, entA_size]) (entA_one _ _ _ _ _ ((congrArg Value.oneCell' Hpv.out).trans rfl) ((congrArg Value.oneCell' Hqv.out).trans rfl)) ?_
  have HX := Keep.mk (HZ.out.setRow (entA ex.id.f ex.N.au ex.N.ck pv qv))
  have LX : Keep (Below X.heap.size X (wz.setRow X.heap.size (entA ex.id.f ex.N.au ex.N.ck pv qv))) := ⟨below_setRow LB.out (Nat.le_refl _) _⟩
  generalize wz.setRow X.heap.size (entA ex.id.f ex.N.au ex.N.ck pv qv) = wx at *
  clear HZ LB
  simp only [Act.put]
  refine WL.nil ?_
  refine hK _ _ (keeps_grown (Grown.below (S := fun _ => False) LX.out) (fun _ h => h.elim) _) ⟨LX.out.mono hI.bel.size, fun k T cs _ hk => hk.below LX.out hk.lt⟩ ⟨X.heap.size, HX.out, rfl, hI.below LX.out, ⟨hF.1.1, hF.1.2.below LX.out⟩, hlen⟩
 case body =>
  rintro l2 pre ⟨i, ex, pv, qv⟩ a' X hl - ⟨Bx, hX, rfl, hI, hF, hlen⟩
  show Code.wpIn _ _ _ _ _ { tmps := #[.slice none 0 0, .func (.func 69) #[] #[.pointer (some ⟨b2, 0, none⟩), .pointer (some ⟨b3, 0, none⟩)], .pointer (some ⟨bb, 0, none⟩), undef, .slice none 0 0, .pointer (some ⟨Bx, 0, none⟩), .func (.func 69) #[] #[.pointer (some ⟨b2, 0, none⟩), .pointer (some ⟨b3, 0, none⟩)], .agg (entA ex.id.f ex.N.au ex.N.ck pv qv), undef, undef, undef, undef, undef], defers := [] } X
  obtain ⟨u, hu, ho⟩ := hI.box
  have Hu := Keep.mk hu
  have Ho := Keep.mk ho
  have HI := Keep.mk hI
  have HF := Keep.mk hF
  have HX := Keep.mk hX
  clear hu ho hI hF hX
  have cb : X.cell? ⟨bb, 0, none⟩ = some u := Hu.out.c 0 rfl
  obtain ⟨pa, pc, hp1⟩ : ∃ a c, Keep (pv = .slice a ex.N.ps.length c) := by obtain ⟨a, c, e⟩ := HF.out.2.nd.ps.form; exact ⟨a, c, ⟨e⟩⟩
  obtain ⟨qa, qc, hq1⟩ : ∃ a c, Keep (qv = .slice a ex.N.ops.length c) := by obtain ⟨a, c, e⟩ := HF.out.2.nd.ops.form; exact ⟨a, c, ⟨e⟩⟩
  obtain ⟨e1, he1⟩ : ∃ a : Array Value, Keep (a = entA ex.id.f ex.N.au ex.N.ck pv qv) := ⟨_, ⟨rfl⟩⟩
  refine wpIn_block ?_
  refine region_in (by kernel_rfl) (fun ⟨_, _, h⟩ => by cases h.1) (WL.out ?_)
  refine VlS (u) ?_
  refine WL.row (by kernel_rfl) 52 (.tmp 5) rfl Bx rfl 52 e1 _ (by rw [he1.out]; exact HX.out) Tryz.underlying52 rfl (by rw [he1.out]; exact sizeE _ _ _ _ _) ?_
  simp only [Act.put, pqA, pqB, pqC]
  have hbs := bsE1 ex.id.f ex.N.au ex.N.ck pa qa ex.N.ps.length ex.N.ops.length pc qc X
  rw [← hp1.out, ← hq1.out] at hbs
  rw [← he1.out] at hbs
  refine WL.bs (by kernel_rfl) 23 1 _ rfl #[(0, .agg e1)] (by simp [Act.eval]) _ _ hbs ?_
  clear hbs
  obtain ⟨wf, hwf⟩ : ∃ wx, Keep (wx = X.alloc (.cells e1 52)) := ⟨_, ⟨rfl⟩⟩
  rw [← hwf.out]
  have HB1 : Keep (Blk wf X.heap.size 52 e1) := ⟨by rw [hwf.out]; exact Blk.new _ _ _⟩
  have LBf : Keep (Below X.heap.size X wf) := ⟨by rw [hwf.out]; exact below_new _ _⟩
  clear hwf cb
  have Hof := Keep.mk (Ho.out.below LBf.out)
  have HFf := Keep.mk (HF.out.2.below LBf.out)
  have Huf := Keep.mk (Hu.out.below LBf.out Hu.out.lt)
  simp only [Act.put, pqA, pqB, pqC]
  have hown : wf.ownsRow wb.heap.size 52 36 (u) (pre.map (·.2)).length ((pre.map (·.2)).flatMap encE) := Hof.out.own
  have HOWN := Keep.mk hown
  clear hown
  obtain ⟨bt, hbt, hIb⟩ := infoC52
  refine WL.appG (w := wf) (by kernel_rfl) 23 52 36 bt _ Tryz.underlying23 hIb (by kernel_rfl) (by decide) (.tmp 8) (.tmp 10) rfl wb.heap.size u ⟨X.heap.size, 0, none⟩ (pre.map (·.2)).length 1 1 ((pre.map (·.2)).flatMap encE) (encE (ex, pv, qv)) rfl rfl ?own ?len ?cells ?one ?le hbt ?base ?go
  case own => exact HOWN.out
  case len => rw [encE_len]
  case cells => intro j u' hu; rw [Addr.add_mid]; have h := blk_range HB1.out; rw [he1.out] at h; exact h j u' hu
  case one => intro u' hu; have h := entA_one ex.id.f ex.N.au ex.N.ck pv qv (by rw [hp1.out]; rfl) (by rw [hq1.out]; rfl); rw [← Array.all_toList, List.all_eq_true] at h; exact h u' hu
  case le => rw [List.length_map]; have := HR.out.n; omega
  case base => exact Hof.out.bel.size
  intro v3 wg h1 h2
  obtain ⟨va, vc, hv3⟩ := (owns_sl h1).form
  subst hv3
  have Hog := Keep.mk (Hof.out.snoc (q := (ex, pv, qv)) HFf.out h1 h2)
  have Gg : Keep (Grown wf wg fun k => u.ownBlock = some k) := ⟨Grown.of h2 fun k _ e => e⟩
  have Hty : Keep (∀ k, u.ownBlock = some k → Typ wf k 52) := ⟨owns_typ Hof.out.own⟩
  have Hbs : Keep (∀ k, u.ownBlock = some k → Typ X k 52 ∧ wb.heap.size ≤ k) := ⟨fun k hk => ⟨owns_typ Ho.out.own k hk, owns_block Ho.out.own k hk⟩⟩
  have Hug : Keep (Blk wg bb 23 #[u]) := ⟨Gg.out.blk Huf.out fun e => absurd ((Hty.out _ e).one Huf.out.typ) (by decide)⟩
  clear h1 h2 hIb hbt
  have f_o := Hug.out.frozen 0
  have c_o : wg.cell? ⟨bb, 0, none⟩ = some (u) := Hug.out.c 0 rfl
  simp only [Act.put, pqA, pqB, pqC]
  refine WL.cell (by kernel_rfl) (wg.setCell ⟨bb, 0, none⟩ (.slice va ((pre.map (·.2)).length + 1) vc)) (by go_simp) ?_
  clear f_o c_o
  have G3 : Keep (Grown wg (wg.setCell ⟨bb, 0, none⟩ (.slice va ((pre.map (·.2)).length + 1) vc)) fun k => k = bb) := ⟨Grown.setCell wg _ 0 _ fun _ => rfl⟩
  have Huh : Keep (Blk (wg.setCell ⟨bb, 0, none⟩ (.slice va ((pre.map (·.2)).length + 1) vc)) bb 23 #[.slice va ((pre.map (·.2)).length + 1) vc]) := ⟨Hug.out.set 0 _⟩
  generalize wg.setCell ⟨bb, 0, none⟩ (.slice va ((pre.map (·.2)).length + 1) vc) = wh_ at *
  have GX : Keep (Grown X wh_ fun k => u.ownBlock = some k ∨ k = bb) := ⟨(((Grown.below LBf.out).trans Gg.out).mono fun k _ e => .inl e).trans (G3.out.mono fun k _ e => .inr e)⟩
  have BX : Keep (Below wb.heap.size X wh_) := ⟨GX.out.to_below (fun k hk e => e.elim (fun e => by have := (Hbs.out k e).2; omega) (fun e => by have := hbb.out; omega)) HI.out.bel.size⟩
  simp only [Act.put]
  refine WL.nil ?_
  refine ⟨rfl, keeps_grown GX.out (fun k hk => ?_) _, ⟨BX.out, fun k T cs hT hk => GX.out.blk hk fun e => ?_⟩, ⟨_, Huh.out, ?_⟩, fun y hy => ?_, ?_⟩
  ·rcases hk with hk | rfl
   ·rcases Ho.out.own.2 with ⟨he, _⟩ | ⟨g, cap, cur, he, _, h4, _⟩
    ·rw [he] at hk; cases hk
    ·rw [he] at hk; cases hk; exact ⟨_, _, h4⟩
   ·exact ⟨_, _, Hu.out⟩
  ·rcases e with e | rfl
   ·have h := (Hbs.out k e).1.one hk.typ
    rcases hT with h2 | h2 | h2 <;> (rw [h2] at h; exact absurd h (by decide))
   ·have h := Hu.out.typ.one hk.typ
    rcases hT with h2 | h2 | h2 <;> (rw [h2] at h; exact absurd h (by decide))
  ·rw [List.map_append]
   exact Hog.out.grown G3.out (fun k T ht hT e => by subst e; have h := Hug.out.typ.one ht; rcases hT with h2 | h2 | h2 <;> (rw [h2] at h; exact absurd h (by decide))) (HI.out.bel.trans BX.out)
  ·rcases List.mem_append.1 hy with hy | hy
   ·exact HI.out.is y hy
   ·rw [List.mem_singleton.1 hy]; exact HF.out.1
  ·rw [List.length_append, List.length_singleton]; omega
 case done =>
  rintro D xs X hD hS hI hKd
  obtain ⟨u, hu, ho⟩ := hI.box
  obtain ⟨ua, uc, hus⟩ := (owns_sl ho.own).form
  subst hus
  have Ho := Keep.mk ho
  have HI := Keep.mk hI
  have cb : X.cell? ⟨bb, 0, none⟩ = some (.slice ua (xs.map (·.2)).length uc) := hu.c 0 rfl
  clear hu ho hI
  show Exit.inBlock 0 (Exit.then _ _) .normal _ _
  refine hK2 _ _ ?_
  refine wp_seq_k fun K4 hK4 => rgn ?_
  refine VlS (.slice ua (xs.map (·.2)).length uc) ?_
  refine VlS (.slice ua (xs.map (·.2)).length uc) ?_
  refine WL.nil (hK4 _ _ ?_)
  refine wp_ret ?_
  refine ⟨by simp, .inl ⟨_, _, rfl, run_takeDeferred hKd, ?_⟩⟩
  have hgD : Grown X (X.putObj D (.deferred none)) fun k => k = D := Grown.of (grownBy_putObj' X D _) fun k _ e => by cases e; rfl
  have hDw : wb.heap.size ≤ D := Nat.le_trans B1.out.size hD
  refine ⟨_, results_tmp rfl _ _ _, .slice ua (xs.map (·.2)).length uc, xs, rfl, Ho.out.grown hgD (fun k T ht _ e => ?_) (HI.out.bel.trans (hgD.to_below (fun k hk e => by omega) HI.out.bel.size)), hS, HI.out.is⟩
  subst e
  obtain ⟨cs, fz, h1⟩ := ht
  rw [hKd] at h1
  cases h1
set_option maxRecDepth 8000 in
theorem collect_any (b2 b3 gi : Nat) (Iw : List Nat) (H : List EP) (S : List (Nat × List Nat)) (v : Value) (p mb ub : Nat) (wb : World) (hR : PastRd wb p H S v mb ub) (h2 : Blk wb b2 25 #[.pointer (some ⟨p, 0, none⟩)]) (h3 : Blk wb b3 100 #[.slice (some ⟨gi, 0, none⟩) Iw.length Iw.length]) (hI : Blk wb gi 93 (wdV Iw).toArray) (hIw : Wds Iw) (hIl : Iw.length ≤ 1000000) : Calls Tryz.prog 50 #[.func (.func 69) #[] #[.pointer (some ⟨b2, 0, none⟩), .pointer (some ⟨b3, 0, none⟩)]] wb fun e w' => ∃ (v' : Value) (xs : List (Nat × EP)), e = .returned v' ∧ OwnL wb w' v' (xs.map (·.2)) ∧ xs.map (·.1) = (List.range H.length).filter (hasW Iw) ∧ ∀ x ∈ xs, (exs H)[x.1]? = some x.2.1 := by
 go_enter Tryz.func50, Tryz.ntmps50
 refine wp_seq_k fun K1 hK1 => rgn ?_
 refine VlS (.slice none 0 0) ?_
 refine WL.nil (hK1 _ _ ?_)
 refine wp_seq_k fun K2 hK2 => rgn ?_
 refine VlS (.func (.func 69) #[] #[.pointer (some ⟨b2, 0, none⟩), .pointer (some ⟨b3, 0, none⟩)]) ?_
 refine WL.callF (by kernel_rfl) 68 _ _ rfl Tryz.in68 #[.slice none 0 0, .func (.func 69) #[] #[.pointer (some ⟨b2, 0, none⟩), .pointer (some ⟨b3, 0, none⟩)]] (by simp [Act.eval]) ?_
 refine (seq_any b2 b3 gi Iw H S v p mb ub wb hR h2 h3 hI hIw hIl).mono ?_
 rintro e w1 ⟨v1, xs, rfl, ho, hx, hi⟩
 refine ⟨_, rfl, ?_⟩
 simp only [Act.put, pqA, pqB, pqC]
 refine VlS (v1) ?_
 refine WL.nil (hK2 _ _ ?_)
 refine wp_ret ?_
 go_ret
 exact ⟨_, xs, rfl, ho, hx, hi⟩
theorem Tryz.in23 (w : World) (vs : Array Value) : (callFunc 23 vs).run Tryz.prog w = .ok (.enter 23 vs) w := by kernel_rfl
def AtPost (H : List EP) (S : List (Nat × List Nat)) (hs : List Hs) (w : World) (e : Ending) (w' : World) : Prop :=
 Below w.heap.size w w' ∧ (((∃ h ∈ hs, h ∉ (idsE (exs H))) ∧ e = .returned (.tuple #[.pointer none, .int .i64 6])) ∨
 ((∀ h ∈ hs, h ∈ (idsE (exs H))) ∧ ∃ (wm wc : World) (v' : Value) (xs : List (Nat × EP)) (p' : Nat), e = .returned (.tuple #[.pointer (some ⟨p', 0, none⟩), .int .i64 0]) ∧ Below w.heap.size w wm ∧ OwnL wm wc v' (xs.map (·.2)) ∧ xs.map (·.1) = (List.range H.length).filter (hasW (rchW S H.length (hs.map (ixH (idsE (exs H)))))) ∧ (∀ x ∈ xs, (exs H)[x.1]? = some x.2.1) ∧ LayPost (xs.map (·.2)) v' wc (.returned (.pointer (some ⟨p', 0, none⟩))) w'))
set_option maxRecDepth 8000 in
set_option maxHeartbeats 1000000 in
theorem at_any (H : List EP) (S : List (Nat × List Nat)) (v : Value) (p mb ub : Nat) (w : World) (hR : PastRd w p H S v mb ub) (hsl : ∀ i (hi : i < S.length), S[i].2.length ≤ (H.length + 63) / 64) (hv : Value) (hs : List Hs) (hH : HRow w hv hs) (hL : hs.length ≤ 4398046511104)
  (hT : (∀ h ∈ hs, h ∈ (idsE (exs H))) → ∀ xs : List (Nat × EP), xs.map (·.1) = (List.range H.length).filter (hasW (rchW S H.length (hs.map (ixH (idsE (exs H)))))) → (∀ x ∈ xs, (exs H)[x.1]? = some x.2.1) → (idsE (exs (xs.map (·.2)))).Nodup ∧ Topo (exs (xs.map (·.2)))) : Calls Tryz.prog 23 #[.pointer (some ⟨p, 0, none⟩), hv] w (AtPost H S hs w) := by
 obtain ⟨ha, hc, rfl⟩ := hH.form
 have HR := Keep.mk hR
 have HH := Keep.mk hH
 have HL := Keep.mk hL
 have Hsl := Keep.mk hsl
 have HT := Keep.mk hT
 have HSw : Keep (∀ i, Wds (S.getD i (0, [])).2) := ⟨fun i => by
  rw [List.getD_eq_getElem?_getD]
  rcases Nat.lt_or_ge i S.length with h | h
  ·rw [List.getElem?_eq_getElem h]; exact (hR.s i h).2.1
  ·rw [List.getElem?_eq_none h]; exact fun _ => by simp⟩
 clear hR hH hL hsl hT
 go_enter Tryz.func23, Tryz.ntmps23
 refine wp_seq_k fun K1 hK1 => rgn ?_
 refine VlS (.pointer none) ?_
 refine VlS (.int .i64 0) ?_
 refine WL.nil (hK1 _ _ ?_)
 refine wp_seq_k fun K2 hK2 => ?_
 by_cases hma : ∀ h ∈ hs, h ∈ (idsE (exs H))
 ·refine rgn ?_
  refine VlS (.pointer (some ⟨p, 0, none⟩)) ?_
  refine VlS (.slice ha hs.length hc) ?_
  refine WL.callF (by kernel_rfl) 49 _ _ rfl Tryz.in49 #[.pointer (some ⟨p, 0, none⟩), .slice ha hs.length hc] (by simp [Act.eval]) ?_
  refine (reach_yes H S v p mb ub w HR.out Hsl.out _ hs HH.out HL.out hma).mono ?_
  rintro e w1 ⟨rfl, hg, hb⟩
  refine ⟨_, rfl, ?_⟩
  have HG := Keep.mk hg
  have B1 := Keep.mk hb
  clear hg hb
  simp only [Act.put, pqA, pqB, pqC]
  refine VlS (.tuple #[.slice (some ⟨w.heap.size, 0, none⟩) ((H.length + 63) / 64) ((H.length + 63) / 64), .int .i64 0]) ?_
  refine VlS (.slice (some ⟨w.heap.size, 0, none⟩) ((H.length + 63) / 64) ((H.length + 63) / 64)) ?_
  refine VlS (.int .i64 0) ?_
  refine VlS (.slice (some ⟨w.heap.size, 0, none⟩) ((H.length + 63) / 64) ((H.length + 63) / 64)) ?_
  refine VlS (.int .i64 0) ?_
  refine WL.nil (hK2 _ _ ?_)
  refine wp_seq_k fun K3 hK3 => ?_
  refine wp_seq_k fun K4 hK4 => rgn ?_
  refine VlS (.int .i64 0) ?_
  refine VbF ?_
  refine WL.nil (hK4 _ _ ?_)
  refine wp_cond_false rfl ?_
  refine wp_skip ?_
  refine hK3 _ _ ?_
  refine wp_seq_k fun K5 hK5 => rgn ?_
  refine VlS (.pointer (some ⟨p, 0, none⟩)) ?_
  refine VlS (.slice (some ⟨w.heap.size, 0, none⟩) ((H.length + 63) / 64) ((H.length + 63) / 64)) ?_
  refine WL.callF (by kernel_rfl) 51 _ _ rfl Tryz.in51 #[.pointer (some ⟨p, 0, none⟩), .slice (some ⟨w.heap.size, 0, none⟩) ((H.length + 63) / 64) ((H.length + 63) / 64)] (by simp [Act.eval]) ?_
  refine (among_any p _ _ _ w1).mono ?_
  rintro e w2 ⟨b2, b3, rfl, h2, h3, hb, _, _⟩
  refine ⟨_, rfl, ?_⟩
  have H2 := Keep.mk h2
  have H3 : Keep (Blk w2 b3 100 #[.slice (some ⟨w.heap.size, 0, none⟩) (rchW S H.length (hs.map (ixH (idsE (exs H))))).length (rchW S H.length (hs.map (ixH (idsE (exs H))))).length]) := ⟨by rw [rchW_len]; exact h3⟩
  have HG2 := Keep.mk (HG.out.below hb HG.out.lt)
  have B2 := Keep.mk (belowC B1.out hb)
  clear h2 h3 hb
  simp only [Act.put, pqA, pqB, pqC]
  refine WL.callF (by kernel_rfl) 50 _ _ rfl Tryz.in50 #[.func (.func 69) #[] #[.pointer (some ⟨b2, 0, none⟩), .pointer (some ⟨b3, 0, none⟩)]] (by simp [Act.eval]) ?_
  refine (collect_any b2 b3 w.heap.size (rchW S H.length (hs.map (ixH (idsE (exs H))))) H S v p mb ub w2 (HR.out.below B2.out) H2.out H3.out HG2.out (rchW_wds HSw.out _ _) (by rw [rchW_len]; have := HR.out.n; omega)).mono ?_
  rintro e w3 ⟨v3, xs, rfl, ho, hx, hi⟩
  refine ⟨_, rfl, ?_⟩
  have Ho := Keep.mk ho
  have Hx := Keep.mk hx
  have Hi := Keep.mk hi
  have B3 := Keep.mk (belowC B2.out ho.bel)
  have Hps : Keep (∀ q ∈ xs.map (·.2), q.1.N.ps.length ≤ 64) := ⟨fun q hq => by
   obtain ⟨x, hx1, rfl⟩ := List.mem_map.1 hq
   have h1 := List.mem_of_getElem? (hi x hx1)
   obtain ⟨y, hy, hye⟩ := List.mem_map.1 h1
   rw [← hye]
   exact (ck_ok (HR.out.ok y hy)).2.2⟩
  have Hln : Keep ((xs.map (·.2)).length ≤ 4096) := ⟨by
   have h1 := congrArg List.length hx
   have h2 := List.length_filter_le (hasW (rchW S H.length (hs.map (ixH (idsE (exs H)))))) (List.range H.length)
   rw [List.length_map] at h1
   rw [List.length_range] at h2
   rw [List.length_map]
   have := HR.out.n
   omega⟩
  have Htp := Keep.mk (HT.out hma xs hx hi)
  clear ho hx hi
  simp only [Act.put, pqA, pqB, pqC]
  refine WL.callF (by kernel_rfl) 33 _ _ rfl Tryz.in33 #[v3] (by simp [Act.eval]) ?_
  refine (lay_any v3 (xs.map (·.2)) w3 Ho.out.sl (fun q hq => (Ho.out.ents q hq).nd) Htp.out.1 Htp.out.2 Hln.out Hps.out).mono ?_
  rintro e w4 ⟨pb, mb', ub', S', rfl, hls, hsl', hun⟩
  refine ⟨_, rfl, ?_⟩
  have B4 : Keep (Below w.heap.size w w4) := ⟨belowC B3.out hls.bel⟩
  simp only [Act.put, pqA, pqB, pqC]
  refine VlS (.pointer (some ⟨pb, 0, none⟩)) ?_
  refine VlS (.int .i64 0) ?_
  refine WL.nil (hK5 _ _ ?_)
  refine wp_ret ?_
  go_ret2
  exact ⟨B4.out, .inr ⟨hma, w2, w3, v3, xs, pb, rfl, B2.out, Ho.out, Hx.out, Hi.out, pb, mb', ub', S', rfl, hls, hsl', hun⟩⟩
 ·have hmx : ∃ h ∈ hs, h ∉ (idsE (exs H)) := by
   apply Classical.byContradiction
   intro hc
   exact hma fun h hh => Classical.byContradiction fun hn => hc ⟨h, hh, hn⟩
  refine rgn ?_
  refine VlS (.pointer (some ⟨p, 0, none⟩)) ?_
  refine VlS (.slice ha hs.length hc) ?_
  refine WL.callF (by kernel_rfl) 49 _ _ rfl Tryz.in49 #[.pointer (some ⟨p, 0, none⟩), .slice ha hs.length hc] (by simp [Act.eval]) ?_
  refine (reach_no H S v p mb ub w HR.out Hsl.out _ hs HH.out HL.out hmx).mono ?_
  rintro e w1 ⟨rfl, hb⟩
  refine ⟨_, rfl, ?_⟩
  have B1 := Keep.mk hb
  clear hb
  simp only [Act.put, pqA, pqB, pqC]
  refine VlS (.tuple #[.slice none 0 0, .int .i64 6]) ?_
  refine VlS (.slice none 0 0) ?_
  refine VlS (.int .i64 6) ?_
  refine VlS (.slice none 0 0) ?_
  refine VlS (.int .i64 6) ?_
  refine WL.nil (hK2 _ _ ?_)
  refine wp_seq_k fun K6 hK6 => ?_
  refine wp_seq_k fun K7 hK7 => rgn ?_
  refine VlS (.int .i64 6) ?_
  refine VbT ?_
  refine WL.nil (hK7 _ _ ?_)
  refine wp_cond_true rfl ?_
  refine wp_seq_k fun K8 hK8 => rgn ?_
  refine VlS (.int .i64 6) ?_
  refine VlS (.pointer none) ?_
  refine VlS (.int .i64 6) ?_
  refine WL.nil (hK8 _ _ ?_)
  refine wp_ret ?_
  go_ret2
  exact ⟨B1.out, .inl ⟨hmx, rfl⟩⟩
theorem Tryz.in45 (w : World) (vs : Array Value) : (callFunc 45 vs).run Tryz.prog w = .ok (.enter 45 vs) w := by kernel_rfl
def sinW (H : List EP) (S : List (Nat × List Nat)) (os ns : List Hs) : List Nat := zipW notW (rchW S H.length (ns.map (ixH (idsE (exs H))))) (rchW S H.length (os.map (ixH (idsE (exs H))))) ((H.length + 63) / 64)
theorem sinW_len (H : List EP) (S : List (Nat × List Nat)) (os ns : List Hs) : (sinW H S os ns).length = ((H.length + 63) / 64) := by unfold sinW; rw [zipW_len, rchW_len]
structure SinSt (wb : World) (bb : Nat) (H : List EP) (pre : List (Nat × EP)) (X : World) : Prop where
 box : ∃ u, Blk X bb 24 #[u] ∧ OwnH X u (pre.map fun x => x.2.1.id) ∧ ∀ k, u.ownBlock = some k → wb.heap.size ≤ k
 is : ∀ x ∈ pre, (exs H)[x.1]? = some x.2.1
 len : pre.length ≤ H.length
 bel : Below wb.heap.size wb X
theorem SinSt.grown {wb : World} {bb : Nat} {H : List EP} {pre : List (Nat × EP)} {X Y : World} {S : Nat → Prop} (h : SinSt wb bb H pre X) (hg : Grown X Y S) (hS : ∀ k T, Typ X k T → (T = 36 ∨ T = 24) → ¬ S k) (hb : Below wb.heap.size wb Y) : SinSt wb bb H pre Y := by
 obtain ⟨u, h1, h2, h3⟩ := h.box
 exact ⟨⟨u, hg.blk h1 (hS _ _ h1.typ (.inr rfl)), h2.grown hg (fun k hk => hS k _ (h2.typ hk) (.inl rfl)), h3⟩, h.is, h.len, hb⟩
theorem SinSt.below {wb : World} {bb : Nat} {H : List EP} {pre : List (Nat × EP)} {X Y : World} (h : SinSt wb bb H pre X) (hb : Below X.heap.size X Y) : SinSt wb bb H pre Y := h.grown (Grown.below (S := fun _ => False) hb) (fun _ _ _ _ h => h) (belowC h.bel hb)
theorem SinSt.own {wb : World} {bb B : Nat} {H : List EP} (hB : wb.heap.size ≤ B) : OwnFrom B (fun (pre : List (Nat × EP)) X => SinSt wb bb H pre X) := fun pre X Y row h hg hr => by
 have hG : Grown X Y fun k => row = some k := Grown.of hg fun k _ e => e
 exact h.grown hG (fun k T ht _ e => not_cells ht (fun r e => (hr r e).2) e) (h.bel.trans (hG.to_below (fun k hk e => by have := (hr k e).1; omega) h.bel.size))
def SinPost (H : List EP) (S : List (Nat × List Nat)) (os ns : List Hs) (w : World) (e : Ending) (w' : World) : Prop :=
 Below w.heap.size w w' ∧ (((∃ h ∈ os ++ ns, h ∉ (idsE (exs H))) ∧ e = .returned (.tuple #[.slice none 0 0, .int .i64 6])) ∨
 ((∀ h ∈ os ++ ns, h ∈ (idsE (exs H))) ∧ ∃ (v' : Value) (xs : List (Nat × EP)), e = .returned (.tuple #[v', .int .i64 0]) ∧ OwnH w' v' (xs.map fun x => x.2.1.id) ∧ (∀ k, v'.ownBlock = some k → w.heap.size ≤ k) ∧ xs.map (·.1) = (List.range H.length).filter (hasW (sinW H S os ns)) ∧ ∀ x ∈ xs, (exs H)[x.1]? = some x.2.1))
set_option maxRecDepth 8000 in
set_option maxHeartbeats 1000000 in
theorem since_any (H : List EP) (S : List (Nat × List Nat)) (v : Value) (p mb ub : Nat) (w : World) (hR : PastRd w p H S v mb ub) (hsl : ∀ i (hi : i < S.length), S[i].2.length ≤ (H.length + 63) / 64) (ov : Value) (os : List Hs) (hO : HRow w ov os) (hOl : os.length ≤ 4398046511104) (nv : Value) (ns : List Hs) (hN : HRow w nv ns) (hNl : ns.length ≤ 4398046511104) : Calls Tryz.prog 45 #[.pointer (some ⟨p, 0, none⟩), ov, nv] w (SinPost H S os ns w) := by
 obtain ⟨oa, oc, rfl⟩ := hO.form
 obtain ⟨na, nc, rfl⟩ := hN.form
 have HR := Keep.mk hR
 have HO := Keep.mk hO
 have HOl := Keep.mk hOl
 have HN := Keep.mk hN
 have HNl := Keep.mk hNl
 have Hsl := Keep.mk hsl
 have HSw : Keep (∀ i, Wds (S.getD i (0, [])).2) := ⟨fun i => by
  rw [List.getD_eq_getElem?_getD]
  rcases Nat.lt_or_ge i S.length with h | h
  ·rw [List.getElem?_eq_getElem h]; exact (hR.s i h).2.1
  ·rw [List.getElem?_eq_none h]; exact fun _ => by simp⟩
 clear hR hO hOl hN hNl hsl
 refine (callsIn_wide (n := 3)).1 ?_
 refine callsIn_of_wp_marks Tryz.func45 rfl trivial ?_ rfl
 refine wpIn_wide.2 ?_
 simp only [Tryz.ntmps45, List.size_toArray, List.length_cons, List.length_nil, Nat.reduceAdd, Nat.reduceSub, Array.replicate_succ, Array.replicate_zero, List.push_toArray, List.append_toArray, List.nil_append, List.cons_append]
 refine wp_seq_k fun K1 hK1 => rgn ?_
 refine VlS (.slice none 0 0) ?_
 refine VlS (.int .i64 0) ?_
 refine WL.nil (hK1 _ _ ?_)
 refine wp_seq_k fun K2 hK2 => ?_
 by_cases hmo : ∀ h ∈ os, h ∈ (idsE (exs H))
 ·refine rgn ?_
  refine VlS (.pointer (some ⟨p, 0, none⟩)) ?_
  refine VlS (.slice oa os.length oc) ?_
  refine WL.callF (by kernel_rfl) 49 _ _ rfl Tryz.in49 #[.pointer (some ⟨p, 0, none⟩), .slice oa os.length oc] (by simp [Act.eval]) ?_
  refine (reach_yes H S v p mb ub w (HR.out.below (Below.refl _ _)) Hsl.out _ os (HO.out.below (Below.refl _ _)) HOl.out hmo).mono ?_
  rintro e w1 ⟨rfl, hg, hb⟩
  refine ⟨_, rfl, ?_⟩
  have HG0 := Keep.mk hg
  have B1 := Keep.mk hb
  clear hg hb
  simp only [Act.put, pqA, pqB, pqC]
  refine VlS (.tuple #[.slice (some ⟨w.heap.size, 0, none⟩) ((H.length + 63) / 64) ((H.length + 63) / 64), .int .i64 0]) ?_
  refine VlS (.slice (some ⟨w.heap.size, 0, none⟩) ((H.length + 63) / 64) ((H.length + 63) / 64)) ?_
  refine VlS (.int .i64 0) ?_
  refine VlS (.slice (some ⟨w.heap.size, 0, none⟩) ((H.length + 63) / 64) ((H.length + 63) / 64)) ?_
  refine VlS (.int .i64 0) ?_
  refine WL.nil (hK2 _ _ ?_)
  refine wp_seq_k fun K3 hK3 => ?_
  refine wp_seq_k fun K4 hK4 => rgn ?_
  refine VlS (.int .i64 0) ?_
  refine VbF ?_
  refine WL.nil (hK4 _ _ ?_)
  refine wp_cond_false rfl ?_
  refine wp_skip ?_
  refine hK3 _ _ ?_
  refine wp_seq_k fun K5 hK5 => ?_
  by_cases hmn : ∀ h ∈ ns, h ∈ (idsE (exs H))
  ·refine rgn ?_
   refine VlS (.pointer (some ⟨p, 0, none⟩)) ?_
   refine VlS (.slice na ns.length nc) ?_
   refine WL.callF (by kernel_rfl) 49 _ _ rfl Tryz.in49 #[.pointer (some ⟨p, 0, none⟩), .slice na ns.length nc] (by simp [Act.eval]) ?_
   refine (reach_yes H S v p mb ub w1 (HR.out.below B1.out) Hsl.out _ ns (HN.out.below B1.out) HNl.out hmn).mono ?_
   rintro e w2 ⟨rfl, hg, hb⟩
   refine ⟨_, rfl, ?_⟩
   have HG1 := Keep.mk hg
   have HG2 := Keep.mk (HG0.out.below hb HG0.out.lt)
   have B2 := Keep.mk (belowC B1.out hb)
   have hne : Keep (w1.heap.size ≠ w.heap.size) := ⟨fun e => by have h1 := HG0.out.lt; omega⟩
   clear hg hb
   simp only [Act.put, pqA, pqB, pqC]
   refine VlS (.tuple #[.slice (some ⟨w1.heap.size, 0, none⟩) ((H.length + 63) / 64) ((H.length + 63) / 64), .int .i64 0]) ?_
   refine VlS (.slice (some ⟨w1.heap.size, 0, none⟩) ((H.length + 63) / 64) ((H.length + 63) / 64)) ?_
   refine VlS (.int .i64 0) ?_
   refine VlS (.slice (some ⟨w1.heap.size, 0, none⟩) ((H.length + 63) / 64) ((H.length + 63) / 64)) ?_
   refine VlS (.int .i64 0) ?_
   refine WL.nil (hK5 _ _ ?_)
   refine wp_seq_k fun K6 hK6 => ?_
   refine wp_seq_k fun K7 hK7 => rgn ?_
   refine VlS (.int .i64 0) ?_
   refine VbF ?_
   refine WL.nil (hK7 _ _ ?_)
   refine wp_cond_false rfl ?_
   refine wp_skip ?_
   refine hK6 _ _ ?_
   refine wp_seq_k fun K8 hK8 => rgn ?_
   refine VlS (.slice (some ⟨w1.heap.size, 0, none⟩) ((H.length + 63) / 64) ((H.length + 63) / 64)) ?_
   refine VlS (.slice (some ⟨w.heap.size, 0, none⟩) ((H.length + 63) / 64) ((H.length + 63) / 64)) ?_
   refine WL.callF (by kernel_rfl) 67 _ _ rfl Tryz.in67 #[.slice (some ⟨w1.heap.size, 0, none⟩) ((H.length + 63) / 64) ((H.length + 63) / 64), .slice (some ⟨w.heap.size, 0, none⟩) ((H.length + 63) / 64) ((H.length + 63) / 64)] (by simp [Act.eval]) ?_
   refine ((by have hq := drop_any w1.heap.size w.heap.size (rchW S H.length (ns.map (ixH (idsE (exs H))))) (rchW S H.length (os.map (ixH (idsE (exs H))))) w2 HG1.out HG2.out hne.out (by rw [rchW_len, rchW_len]; exact Nat.le_refl _) (by rw [rchW_len]; have := HR.out.n; omega) (rchW_wds HSw.out _ _) (rchW_wds HSw.out _ _); rw [rchW_len, rchW_len] at hq; exact hq : Calls Tryz.prog 67 #[.slice (some ⟨w1.heap.size, 0, none⟩) ((H.length + 63) / 64) ((H.length + 63) / 64), .slice (some ⟨w.heap.size, 0, none⟩) ((H.length + 63) / 64) ((H.length + 63) / 64)] w2 _)).mono ?_
   rintro e w3 ⟨rfl, hg, hgr⟩
   refine ⟨_, rfl, ?_⟩
   have HM := Keep.mk hg
   have B3 : Keep (Below w.heap.size w w3) := ⟨B2.out.trans (hgr.to_below (fun k hk e => by have := B1.out.size; omega) B2.out.size)⟩
   have hgi : Keep (w.heap.size ≤ w1.heap.size) := ⟨B1.out.size⟩
   clear hg hgr
   simp only [Act.put, pqA, pqB, pqC]
   refine WL.nil (hK8 _ _ ?_)
   refine wp_seq_k fun K9 hK9 => rgn ?_
   refine WL.new (by kernel_rfl) 24 rfl (#[.slice none 0 0]) Tryz.new24 ?_
   obtain ⟨w4, hwn⟩ : ∃ wx, Keep (wx = w3.alloc (.cells (#[.slice none 0 0]) 24)) := ⟨_, ⟨rfl⟩⟩
   rw [← hwn.out]
   have HB4 : Keep (Blk w4 w3.heap.size 24 (#[.slice none 0 0])) := ⟨by rw [hwn.out]; exact Blk.new _ _ _⟩
   have L4 : Keep (Below w3.heap.size w3 w4) := ⟨by rw [hwn.out]; exact below_new _ _⟩
   clear hwn
   have B4 := Keep.mk (belowC B3.out L4.out)
   have HM4 := Keep.mk (HM.out.below L4.out HM.out.lt)
   simp only [Act.put, pqA, pqB, pqC]
   refine WL.nil (hK9 _ _ ?_)
   refine wp_seq_k fun K10 hK10 => ?_
   refine wp_seq_k fun K11 hK11 => rgn ?_
   refine VlS (.pointer (some ⟨p, 0, none⟩)) ?_
   refine VlS (.slice (some ⟨w1.heap.size, 0, none⟩) ((H.length + 63) / 64) ((H.length + 63) / 64)) ?_
   refine WL.callF (by kernel_rfl) 51 _ _ rfl Tryz.in51 #[.pointer (some ⟨p, 0, none⟩), .slice (some ⟨w1.heap.size, 0, none⟩) ((H.length + 63) / 64) ((H.length + 63) / 64)] (by simp [Act.eval]) ?_
   refine (among_any p _ _ _ w4).mono ?_
   rintro e wb ⟨b2, b3, rfl, h2, h3, hb, _, _⟩
   refine ⟨_, rfl, ?_⟩
   have H2 := Keep.mk h2
   have H3 : Keep (Blk wb b3 100 #[.slice (some ⟨w1.heap.size, 0, none⟩) (sinW H S os ns).length (sinW H S os ns).length]) := ⟨by rw [sinW_len]; exact h3⟩
   have HM5 : Keep (Blk wb w1.heap.size 93 (wdV (sinW H S os ns)).toArray) := ⟨HM4.out.below hb HM4.out.lt⟩
   have HB5 := Keep.mk (HB4.out.below hb HB4.out.lt)
   have B5 := Keep.mk (belowC B4.out hb)
   have Hsw : Keep (Wds (sinW H S os ns)) := ⟨(rchW_wds HSw.out _ _).zip notW_lt⟩
   have C0 : Keep (SinSt w w3.heap.size H [] wb) := ⟨⟨⟨_, HB5.out, ownH_nil _, (fun k hk => by cases hk)⟩, (fun x hx => by cases hx), by simp, B5.out⟩⟩
   clear h2 h3 hb
   simp only [Act.put, pqA, pqB, pqC]
   refine WL.nil (hK11 _ _ ?_)
   refine wp_block ?_
   obtain ⟨bb, hbb⟩ : ∃ b, Keep (b = w3.heap.size) := ⟨_, ⟨rfl⟩⟩
   have C1 : Keep (SinSt w bb H [] wb) := ⟨by rw [hbb.out]; exact C0.out⟩
   have hbw : Keep (w.heap.size ≤ bb) := ⟨by rw [hbb.out]; exact B3.out.size⟩
   have hblt : Keep (bb < wb.heap.size) := ⟨by rw [hbb.out]; exact HB5.out.lt⟩
   rw [← hbb.out]
   clear C0 HB4 HB5
   refine (wpIn_wide (n := 4)).1 ?_
   refine range_told (n := 4) (by omega) (gf := 69) (lb := #[.pointer (some ⟨b2, 0, none⟩), .pointer (some ⟨b3, 0, none⟩)]) rfl (enters_of Tryz.func69 (by kernel_rfl) rfl) (among_told 3 b2 b3 w1.heap.size (sinW H S os ns) H S v p mb ub w wb HR.out H2.out H3.out HM5.out Hsw.out (by rw [sinW_len]; have := HR.out.n; omega) B5.out) (fun _ _ _ h k => h.trans k) (fun X r r' hr => ⟨belowK_b (w := wb) B5.out.size X _ _ _ (by omega) hr.l rfl rfl, fun k T cs _ hk => (Grown.of (S := fun k => k = wb.heap.size + 1) (grownBy_putObj' X _ _) fun k _ e => by cases e; rfl).blk hk fun e => by subst e; have h1 := hr.l; unfold Blk at hk; rw [hk] at h1; cases h1⟩) (Below.refl _ _) (fun _ => rfl) (fun pre X => SinSt w bb H pre X) (SinSt.own B5.out.size) C1.out (fun pre x a' X => ∃ Bx, Blk X Bx 52 (entA x.2.1.id.f x.2.1.N.au x.2.1.N.ck x.2.2.1 x.2.2.2) ∧ a' = { tmps := #[.pointer (some ⟨p, 0, none⟩), .slice oa os.length oc, .slice na ns.length nc, undef, undef, undef, .slice none 0 0, .int .i64 0, .slice (some ⟨w.heap.size, 0, none⟩) ((H.length + 63) / 64) ((H.length + 63) / 64), .int .i64 0, .slice (some ⟨w1.heap.size, 0, none⟩) ((H.length + 63) / 64) ((H.length + 63) / 64), .pointer (some ⟨bb, 0, none⟩), .pointer (some ⟨Bx, 0, none⟩), .tuple #[.slice (some ⟨w.heap.size, 0, none⟩) ((H.length + 63) / 64) ((H.length + 63) / 64), .int .i64 0], .pointer (some ⟨p, 0, none⟩), .slice oa os.length oc, .tuple #[.slice (some ⟨w.heap.size, 0, none⟩) ((H.length + 63) / 64) ((H.length + 63) / 64), .int .i64 0], .slice (some ⟨w.heap.size, 0, none⟩) ((H.length + 63) / 64) ((H.length + 63) / 64), .int .i64 0, .int .i64 0, .bool false, undef, .tuple #[.slice (some ⟨w1.heap.size, 0, none⟩) ((H.length + 63) / 64) ((H.length + 63) / 64), .int .i64 0], .pointer (some ⟨p, 0, none⟩), .slice na ns.length nc, .tuple #[.slice (some ⟨w1.heap.size, 0, none⟩) ((H.length + 63) / 64) ((H.length + 63) / 64), .int .i64 0], .slice (some ⟨w1.heap.size, 0, none⟩) ((H.length + 63) / 64) ((H.length + 63) / 64), .int .i64 0, .int .i64 0, .bool false, undef, .slice (some ⟨w1.heap.size, 0, none⟩) ((H.length + 63) / 64) ((H.length + 63) / 64), .slice (some ⟨w.heap.size, 0, none⟩) ((H.length + 63) / 64) ((H.length + 63) / 64), .tuple #[], .pointer (some ⟨p, 0, none⟩), .slice (some ⟨w1.heap.size, 0, none⟩) ((H.length + 63) / 64) ((H.length + 63) / 64), .func (.func 69) #[] #[.pointer (some ⟨b2, 0, none⟩), .pointer (some ⟨b3, 0, none⟩)], .agg (entA x.2.1.id.f x.2.1.N.au x.2.1.N.ck x.2.2.1 x.2.2.2), undef, undef, undef, undef, undef, undef], defers := [] } ∧ SinSt w bb H pre X ∧ (exs H)[x.1]? = some x.2.1 ∧ pre.length < H.length) ?ax ?assign ?body ?done
   case ax =>
    rintro pre x a' ⟨⟩ X Y row ⟨Bx, h1, h2, h3, h4, h5⟩ hg hr
    exact ⟨Bx, blk_other h1 hg fun r e => (hr r e).2, h2, SinSt.own (B := wb.heap.size) B5.out.size pre X Y row h3 hg hr, h4, h5⟩
   case assign =>
    rintro l2 pre ⟨i, ex, pv, qv⟩ X K hI hF hlen hK
    simp only [encX, List.zip_toArray, List.zip_cons_cons, List.zip_nil_right, List.zip_nil_left, List.foldl_toArray, List.foldl_cons, List.foldl_nil, List.setIfInBounds_toArray, List.set_cons_zero, List.set_cons_succ]
    obtain ⟨pa, pc, hpv⟩ := hF.1.2.nd.ps.form
    obtain ⟨qa, qc, hqv⟩ := hF.1.2.nd.ops.form
    have Hpv := Keep.mk hpv
    have Hqv := Keep.mk hqv
    clear hpv hqv
    refine region_in (by kernel_rfl) (fun ⟨_, _, h⟩ => h) (WL.out ?_)
    refine WL.new (by kernel_rfl) 52 rfl (entA (fun _ => 0) 0 0 (.slice none 0 0) (.slice none 0 0)) Tryz.new52 ?_
    obtain ⟨wz, hwn⟩ : ∃ wx, Keep (wx = X.alloc (.cells (entA (fun _ => 0) 0 0 (.slice none 0 0) (.slice none 0 0)) 52)) := ⟨_, ⟨rfl⟩⟩
    rw [← hwn.out]
    have HZ : Keep (Blk wz X.heap.size 52 (entA (fun _ => 0) 0 0 (.slice none 0 0) (.slice none 0 0))) := ⟨by rw [hwn.out]; exact Blk.new _ _ _⟩
    have LB : Keep (Below X.heap.size X wz) := ⟨by rw [hwn.out]; exact below_new _ _⟩
    clear hwn
    simp only [Act.put, pqA, pqB, pqC]
    refine WL.storeR (by kernel_rfl) 52 (.tmp 12) (.tmp 37) rfl X.heap.size (entA ex.id.f ex.N.au ex.N.ck pv qv) rfl rfl 52 _ HZ.out (sizeE _ _ _ _ _) (by rw [entA_size, entA_size]) (entA_one _ _ _ _ _ ((congrArg Value.oneCell' Hpv.out).trans rfl) ((congrArg Value.oneCell' Hqv.out).trans rfl)) ?_
    have HX := Keep.mk (HZ.out.setRow (entA ex.id.f ex.N.au ex.N.ck pv qv))
    have LX : Keep (Below X.heap.size X (wz.setRow X.heap.size (entA ex.id.f ex.N.au ex.N.ck pv qv))) := ⟨below_setRow LB.out (Nat.le_refl _) _⟩
    generalize wz.setRow X.heap.size (entA ex.id.f ex.N.au ex.N.ck pv qv) = wx at *
    clear HZ LB
    simp only [Act.put]
    refine WL.nil ?_
    refine hK _ _ (keeps_grown (Grown.below (S := fun _ => False) LX.out) (fun _ h => h.elim) _) ⟨LX.out.mono hI.bel.size, fun k T cs _ hk => hk.below LX.out hk.lt⟩ ⟨X.heap.size, HX.out, rfl, hI.below LX.out, hF.1.1, hlen⟩
   case body =>
    rintro l2 pre ⟨i, ex, pv, qv⟩ a' X hl - ⟨Bx, hX, rfl, hI, hF, hlen⟩
    show Code.wpIn _ _ _ _ _ { tmps := #[.pointer (some ⟨p, 0, none⟩), .slice oa os.length oc, .slice na ns.length nc, undef, undef, undef, .slice none 0 0, .int .i64 0, .slice (some ⟨w.heap.size, 0, none⟩) ((H.length + 63) / 64) ((H.length + 63) / 64), .int .i64 0, .slice (some ⟨w1.heap.size, 0, none⟩) ((H.length + 63) / 64) ((H.length + 63) / 64), .pointer (some ⟨bb, 0, none⟩), .pointer (some ⟨Bx, 0, none⟩), .tuple #[.slice (some ⟨w.heap.size, 0, none⟩) ((H.length + 63) / 64) ((H.length + 63) / 64), .int .i64 0], .pointer (some ⟨p, 0, none⟩), .slice oa os.length oc, .tuple #[.slice (some ⟨w.heap.size, 0, none⟩) ((H.length + 63) / 64) ((H.length + 63) / 64), .int .i64 0], .slice (some ⟨w.heap.size, 0, none⟩) ((H.length + 63) / 64) ((H.length + 63) / 64), .int .i64 0, .int .i64 0, .bool false, undef, .tuple #[.slice (some ⟨w1.heap.size, 0, none⟩) ((H.length + 63) / 64) ((H.length + 63) / 64), .int .i64 0], .pointer (some ⟨p, 0, none⟩), .slice na ns.length nc, .tuple #[.slice (some ⟨w1.heap.size, 0, none⟩) ((H.length + 63) / 64) ((H.length + 63) / 64), .int .i64 0], .slice (some ⟨w1.heap.size, 0, none⟩) ((H.length + 63) / 64) ((H.length + 63) / 64), .int .i64 0, .int .i64 0, .bool false, undef, .slice (some ⟨w1.heap.size, 0, none⟩) ((H.length + 63) / 64) ((H.length + 63) / 64), .slice (some ⟨w.heap.size, 0, none⟩) ((H.length + 63) / 64) ((H.length + 63) / 64), .tuple #[], .pointer (some ⟨p, 0, none⟩), .slice (some ⟨w1.heap.size, 0, none⟩) ((H.length + 63) / 64) ((H.length + 63) / 64), .func (.func 69) #[] #[.pointer (some ⟨b2, 0, none⟩), .pointer (some ⟨b3, 0, none⟩)], .agg (entA ex.id.f ex.N.au ex.N.ck pv qv), undef, undef, undef, undef, undef, undef], defers := [] } X
    obtain ⟨u, hu, ho, hn⟩ := hI.box
    have Hu := Keep.mk hu
    have Ho := Keep.mk ho
    have Hn := Keep.mk hn
    have HI := Keep.mk hI
    have HF := Keep.mk hF
    have HX := Keep.mk hX
    clear hu ho hn hI hF hX
    have cb : X.cell? ⟨bb, 0, none⟩ = some u := Hu.out.c 0 rfl
    refine wpIn_block ?_
    refine region_in (by kernel_rfl) (fun ⟨_, _, h⟩ => by cases h.1) (WL.out ?_)
    refine VlS (u) ?_
    refine VlS (.pointer (some ⟨Bx, 0, none⟩)) ?_
    refine WL.midA (by kernel_rfl) 36 (.tmp 39) rfl Bx 0 rfl (bytesA 32 ex.id.f) _ (ent_range_id (blk_range HX.out)) Tryz.underlying36 rfl (size36E _) ?_
    simp only [Act.put, pqA, pqB, pqC]
    refine WL.bs (by kernel_rfl) 24 1 _ rfl #[(0, .agg (bytesA 32 ex.id.f))] (by simp [Act.eval]) _ _ (bsH ex.id X) ?_
    obtain ⟨wf, hwf⟩ : ∃ wx, Keep (wx = X.alloc (.cells (bytesA 32 ex.id.f) 36)) := ⟨_, ⟨rfl⟩⟩
    rw [← hwf.out]
    have Hf : Keep (Blk wf X.heap.size 36 (bytesA 32 ex.id.f)) := ⟨by rw [hwf.out]; exact Blk.new _ _ _⟩
    have LBf : Keep (Below X.heap.size X wf) := ⟨by rw [hwf.out]; exact below_new _ _⟩
    clear hwf cb
    have Huf := Keep.mk (Ho.out.below LBf.out)
    simp only [Act.put, pqA, pqB, pqC]
    obtain ⟨u2, wg, hrun, hown, hgr, hmv⟩ := run_appH wf 24 _ (pre.map fun x => x.2.1.id) Huf.out X.heap.size ex.id Hf.out (by rw [List.length_map]; have := HR.out.n; omega)
    refine WL.appR (by kernel_rfl) (.tmp 38) (.tmp 41) rfl _ _ rfl rfl _ _ hrun ?_
    have Hgr := Keep.mk hgr
    have Hown := Keep.mk hown
    have Hmv := Keep.mk hmv
    obtain ⟨va, vc, hvs⟩ := hown.sl
    subst hvs
    clear hrun hown hgr hmv
    have GW2 : Keep (Grown X wg fun k => u.ownBlock = some k) := ⟨(Grown.below LBf.out).trans Hgr.out⟩
    have H5g : Keep (Blk wg bb 24 #[u]) := ⟨GW2.out.blk Hu.out fun e => absurd ((Ho.out.typ e).one Hu.out.typ) (by decide)⟩
    have f_o := H5g.out.frozen 0
    have c_o : wg.cell? ⟨bb, 0, none⟩ = some u := H5g.out.c 0 rfl
    simp only [Act.put, pqA, pqB, pqC]
    refine WL.cell (by kernel_rfl) (wg.setCell ⟨bb, 0, none⟩ (.slice va ((pre.map fun x => x.2.1.id) ++ [ex.id]).length vc)) (by go_simp) ?_
    clear f_o c_o
    have G3 : Keep (Grown wg (wg.setCell ⟨bb, 0, none⟩ (.slice va ((pre.map fun x => x.2.1.id) ++ [ex.id]).length vc)) fun k => k = bb) := ⟨Grown.setCell wg _ 0 _ fun _ => rfl⟩
    have Huh : Keep (Blk (wg.setCell ⟨bb, 0, none⟩ (.slice va ((pre.map fun x => x.2.1.id) ++ [ex.id]).length vc)) bb 24 #[.slice va ((pre.map fun x => x.2.1.id) ++ [ex.id]).length vc]) := ⟨H5g.out.set 0 _⟩
    generalize wg.setCell ⟨bb, 0, none⟩ (.slice va ((pre.map fun x => x.2.1.id) ++ [ex.id]).length vc) = wh_ at *
    have Hoh : Keep (OwnH wh_ (.slice va ((pre.map fun x => x.2.1.id) ++ [ex.id]).length vc) ((pre.map fun x => x.2.1.id) ++ [ex.id])) := ⟨Hown.out.grown G3.out fun k hk e => by subst e; exact absurd ((Hown.out.typ hk).one H5g.out.typ) (by decide)⟩
    have GX : Keep (Grown X wh_ fun k => u.ownBlock = some k ∨ k = bb) := ⟨(GW2.out.mono fun k _ e => .inl e).trans (G3.out.mono fun k _ e => .inr e)⟩
    have BX : Keep (Below w.heap.size X wh_) := ⟨GX.out.to_below (fun k hk e => e.elim (fun e => by have := Hn.out k e; omega) (fun e => by have := hbw.out; omega)) HI.out.bel.size⟩
    simp only [Act.put]
    refine WL.nil ?_
    refine ⟨rfl, keeps_grown GX.out (fun k hk => ?_) _, ⟨BX.out, fun k T cs hT hk => GX.out.blk hk fun e => ?_⟩, ⟨_, Huh.out, ?_, fun k hk => ?_⟩, fun y hy => ?_, ?_, HI.out.bel.trans BX.out⟩
    ·rcases hk with hk | rfl
     ·rcases Ho.out.form with ⟨he, _⟩ | ⟨g, cap, cur, he, h4, _⟩
      ·rw [he] at hk; cases hk
      ·rw [he] at hk; cases hk; exact ⟨_, _, h4⟩
     ·exact ⟨_, _, Hu.out⟩
    ·rcases e with e | rfl
     ·have h := (Ho.out.typ e).one hk.typ
      rcases hT with h2 | h2 | h2 <;> (rw [h2] at h; exact absurd h (by decide))
     ·have h := Hu.out.typ.one hk.typ
      rcases hT with h2 | h2 | h2 <;> (rw [h2] at h; exact absurd h (by decide))
    ·rw [List.map_append]; exact Hoh.out
    ·rcases Nat.lt_or_ge k wf.heap.size with h | h
     ·exact Hn.out k (Hmv.out.old h hk)
     ·exact Nat.le_trans HI.out.bel.size (Nat.le_trans LBf.out.size h)
    ·rcases List.mem_append.1 hy with hy | hy
     ·exact HI.out.is y hy
     ·rw [List.mem_singleton.1 hy]; exact HF.out
    ·rw [List.length_append, List.length_singleton]; omega
   case done =>
    rintro D xs X hD hS hI hKd
    obtain ⟨u, hu, ho, hn⟩ := hI.box
    obtain ⟨ua, uc, hus⟩ := ho.sl
    subst hus
    have Ho := Keep.mk ho
    have Hn := Keep.mk hn
    have HI := Keep.mk hI
    have cb : X.cell? ⟨bb, 0, none⟩ = some (.slice ua (xs.map fun x => x.2.1.id).length uc) := hu.c 0 rfl
    clear hu ho hn hI
    show Exit.inBlock 0 (Exit.then _ _) .normal _ _
    refine hK10 _ _ ?_
    refine wp_seq_k fun K12 hK12 => rgn ?_
    refine VlS (.slice ua (xs.map fun x => x.2.1.id).length uc) ?_
    refine VlS (.slice ua (xs.map fun x => x.2.1.id).length uc) ?_
    refine VlS (.int .i64 0) ?_
    refine WL.nil (hK12 _ _ ?_)
    refine wp_ret ?_
    refine ⟨by simp, .inl ⟨_, _, rfl, run_takeDeferred hKd, ?_⟩⟩
    have hgD : Grown X (X.putObj D (.deferred none)) fun k => k = D := Grown.of (grownBy_putObj' X D _) fun k _ e => by cases e; rfl
    have hDw : w.heap.size ≤ D := Nat.le_trans B5.out.size hD
    refine ⟨_, results_tmp2 rfl _ _ _, HI.out.bel.trans (hgD.to_below (fun k hk e => by omega) HI.out.bel.size), .inr ⟨fun h hh => (List.mem_append.1 hh).elim (hmo h) (hmn h), .slice ua (xs.map fun x => x.2.1.id).length uc, xs, rfl, Ho.out.grown hgD (fun k hk e => ?_), Hn.out, hS, HI.out.is⟩⟩
    subst e
    obtain ⟨cs, fz, h1⟩ := Ho.out.typ hk
    rw [hKd] at h1
    cases h1
  ·have hmx : ∃ h ∈ ns, h ∉ (idsE (exs H)) := by
    apply Classical.byContradiction
    intro hc
    exact hmn fun h hh => Classical.byContradiction fun hn => hc ⟨h, hh, hn⟩
   refine rgn ?_
   refine VlS (.pointer (some ⟨p, 0, none⟩)) ?_
   refine VlS (.slice na ns.length nc) ?_
   refine WL.callF (by kernel_rfl) 49 _ _ rfl Tryz.in49 #[.pointer (some ⟨p, 0, none⟩), .slice na ns.length nc] (by simp [Act.eval]) ?_
   refine (reach_no H S v p mb ub w1 (HR.out.below B1.out) Hsl.out _ ns (HN.out.below B1.out) HNl.out hmx).mono ?_
   rintro e w2 ⟨rfl, hb⟩
   refine ⟨_, rfl, ?_⟩
   have Bx := Keep.mk (belowC B1.out hb)
   clear hb
   simp only [Act.put, pqA, pqB, pqC]
   refine VlS (.tuple #[.slice none 0 0, .int .i64 6]) ?_
   refine VlS (.slice none 0 0) ?_
   refine VlS (.int .i64 6) ?_
   refine VlS (.slice none 0 0) ?_
   refine VlS (.int .i64 6) ?_
   refine WL.nil (hK5 _ _ ?_)
   refine wp_seq_k fun K12 hK12 => ?_
   refine wp_seq_k fun K13 hK13 => rgn ?_
   refine VlS (.int .i64 6) ?_
   refine VbT ?_
   refine WL.nil (hK13 _ _ ?_)
   refine wp_cond_true rfl ?_
   refine wp_seq_k fun K14 hK14 => rgn ?_
   refine VlS (.int .i64 6) ?_
   refine VlS (.slice none 0 0) ?_
   refine VlS (.int .i64 6) ?_
   refine WL.nil (hK14 _ _ ?_)
   refine wp_ret ?_
   refine ⟨_, results_tmp2 rfl _ _ _, Bx.out, .inl ⟨?_, rfl⟩⟩
   obtain ⟨h, h1, h2⟩ := hmx
   exact ⟨h, List.mem_append.2 (.inr h1), h2⟩
 ·have hmx : ∃ h ∈ os, h ∉ (idsE (exs H)) := by
   apply Classical.byContradiction
   intro hc
   exact hmo fun h hh => Classical.byContradiction fun hn => hc ⟨h, hh, hn⟩
  refine rgn ?_
  refine VlS (.pointer (some ⟨p, 0, none⟩)) ?_
  refine VlS (.slice oa os.length oc) ?_
  refine WL.callF (by kernel_rfl) 49 _ _ rfl Tryz.in49 #[.pointer (some ⟨p, 0, none⟩), .slice oa os.length oc] (by simp [Act.eval]) ?_
  refine (reach_no H S v p mb ub w (HR.out.below (Below.refl _ _)) Hsl.out _ os (HO.out.below (Below.refl _ _)) HOl.out hmx).mono ?_
  rintro e w1 ⟨rfl, hb⟩
  refine ⟨_, rfl, ?_⟩
  have Bx := Keep.mk (belowC (Below.refl _ _) hb)
  clear hb
  simp only [Act.put, pqA, pqB, pqC]
  refine VlS (.tuple #[.slice none 0 0, .int .i64 6]) ?_
  refine VlS (.slice none 0 0) ?_
  refine VlS (.int .i64 6) ?_
  refine VlS (.slice none 0 0) ?_
  refine VlS (.int .i64 6) ?_
  refine WL.nil (hK2 _ _ ?_)
  refine wp_seq_k fun K15 hK15 => ?_
  refine wp_seq_k fun K16 hK16 => rgn ?_
  refine VlS (.int .i64 6) ?_
  refine VbT ?_
  refine WL.nil (hK16 _ _ ?_)
  refine wp_cond_true rfl ?_
  refine wp_seq_k fun K17 hK17 => rgn ?_
  refine VlS (.int .i64 6) ?_
  refine VlS (.slice none 0 0) ?_
  refine VlS (.int .i64 6) ?_
  refine WL.nil (hK17 _ _ ?_)
  refine wp_ret ?_
  refine ⟨_, results_tmp2 rfl _ _ _, Bx.out, .inl ⟨?_, rfl⟩⟩
  obtain ⟨h, h1, h2⟩ := hmx
  exact ⟨h, List.mem_append.2 (.inl h1), h2⟩
structure HisAt (w : World) (p : Nat) (H : List EP) (S : List (Nat × List Nat)) (v : Value) (mb ub : Nat) : Prop where
 rd : PastRd w p H S v mb ub
 hst : Hst (exs H) (S.map (·.2))
 sb : ∀ k, v.ownBlock = some k → k < w.heap.size
theorem HisAt.sl {w : World} {p : Nat} {H : List EP} {S : List (Nat × List Nat)} {v : Value} {mb ub : Nat} (h : HisAt w p H S v mb ub) : ∀ i (hi : i < S.length), S[i].2.length ≤ (H.length + 63) / 64 := fun i hi => by
 have h1 : i < H.length := by rw [← h.rd.len]; exact hi
 have h2 := h.hst.row (i := i) (by rw [exs_len]; exact h1)
 rw [seesW_get hi] at h2
 omega
theorem HisAt.below {w w' : World} {p : Nat} {H : List EP} {S : List (Nat × List Nat)} {v : Value} {mb ub : Nat} (h : HisAt w p H S v mb ub) (hb : Below w.heap.size w w') : HisAt w' p H S v mb ub := ⟨h.rd.below hb, h.hst, fun k hk => Nat.lt_of_lt_of_le (h.sb k hk) hb.size⟩
theorem his_of {w w' : World} {p : Nat} {L : List EX} {H : List EP} {S : List (Nat × List Nat)} (h : PastAt w w' p L H S) : ∃ v mb ub, HisAt w' p H S v mb ub := by
 obtain ⟨v, mb, ub, a1, o1⟩ := h.at'
 obtain ⟨v', mb', ub', r1⟩ := h.rd
 have e1 : v' = v := Option.some.inj ((r1.p.c 0 rfl).symm.trans (a1.p.c 0 rfl))
 exact ⟨v', mb', ub', r1, ⟨h.topo, h.one.nd, und_ok h.und, by rw [List.length_map, h.sl, exs_len]⟩, by rw [e1]; exact owns_lt o1.own⟩
theorem his_lay {wm wc w' : World} {v : Value} {H : List EP} {p : Nat} (hl : LayPost H v wc (.returned (.pointer (some ⟨p, 0, none⟩))) w') (ho : OwnL wm wc v H) (hn : H.length ≤ 4096) (hk : ∀ q ∈ H, Nd.chkN q.1.N = 0) (hd : (idsE (exs H)).Nodup) (hT : Topo (exs H)) : ∃ S mb ub, HisAt w' p H S v mb ub := by
 obtain ⟨pb, mb, ub, S, e, h1, h2, h3⟩ := hl
 injection e with e
 injection e with e
 injection e with e
 injection e with e
 subst e
 have o2 := ho.below h1.bel
 refine ⟨S, mb, ub, ⟨h1.p, o2.sl, fun q hq => (o2.ents q hq).nd, by have := h1.m; rwa [List.take_length] at this, fun i hi => h1.u.c i (sets_get S _ i hi), fun i hi => ⟨(h1.s S[i] (List.getElem_mem hi)).1, (h3 i hi).2.2, ?_⟩, h2, hn, hk⟩, ⟨hT, hd, und_ok h3, by rw [List.length_map, h2, exs_len]⟩, owns_lt o2.own⟩
 rw [(h3 i hi).1, undF_len]
 have := (h3 i hi).2.1
 omega
theorem rchW_rch {H : List EP} {S : List (Nat × List Nat)} (hst : Hst (exs H) (S.map (·.2))) {hs : List Hs} (hy : ∀ g ∈ hs, g ∈ idsE (exs H)) : hasW (rchW S H.length (hs.map (ixH (idsE (exs H))))) = rch (exs H) (S.map (·.2)) hs := by
 funext j
 rw [rchW_has _ _ _ (fun k hk => ?_), List.any_map]
 ·unfold rch
  congr 1
  funext g
  show hasW (S.getD _ (0, [])).2 j = _
  rw [sGet]
 ·obtain ⟨y, hy1, rfl⟩ := List.mem_map.1 hk
  have h1 := ix_lt (hy y hy1)
  rw [sGet, hst.row h1]
  rw [exs_len] at h1
  omega
def HisAtPost (H : List EP) (S : List (Nat × List Nat)) (hs : List Hs) (w : World) (e : Ending) (w' : World) : Prop :=
 Below w.heap.size w w' ∧ (((∃ h ∈ hs, h ∉ idsE (exs H)) ∧ e = .returned (.tuple #[.pointer none, .int .i64 6])) ∨
 ((∀ h ∈ hs, h ∈ idsE (exs H)) ∧ ∃ (p' : Nat) (K : List EP) (R : List (Nat × List Nat)) (v' : Value) (mc uc : Nat), e = .returned (.tuple #[.pointer (some ⟨p', 0, none⟩), .int .i64 0]) ∧ HisAt w' p' K R v' mc uc ∧ exs K = prt (exs H) (rch (exs H) (S.map (·.2)) hs)))
theorem his_at {w : World} {p : Nat} {H : List EP} {S : List (Nat × List Nat)} {v : Value} {mb ub : Nat} (h : HisAt w p H S v mb ub) (hv : Value) (hs : List Hs) (hH : HRow w hv hs) (hL : hs.length ≤ 4398046511104) : Calls Tryz.prog 23 #[.pointer (some ⟨p, 0, none⟩), hv] w (HisAtPost H S hs w) := by
 have hlS : S.length = H.length := by have := h.hst.len; rwa [List.length_map, exs_len] at this
 refine (at_any H S v p mb ub w h.rd h.sl hv hs hH hL (fun hy xs hx hi => at_part h.hst.topo h.hst.nd h.hst.und hlS h.sl hs hy xs hx hi)).mono ?_
 rintro e w' ⟨hb, ⟨h1, rfl⟩ | ⟨hy, wm, wc, v', xs, p', rfl, h2, h3, h4, h5, h6⟩⟩
 ·exact ⟨hb, .inl ⟨h1, rfl⟩⟩
 ·refine ⟨hb, .inr ⟨hy, p', xs.map (·.2), ?_⟩⟩
  have hp := at_part h.hst.topo h.hst.nd h.hst.und hlS h.sl hs hy xs h4 h5
  have hn : (xs.map (·.2)).length ≤ 4096 := by
   have e1 := congrArg List.length h4
   have e2 := List.length_filter_le (hasW (rchW S H.length (hs.map (ixH (idsE (exs H)))))) (List.range H.length)
   rw [List.length_map] at e1
   rw [List.length_range] at e2
   rw [List.length_map]
   have := h.rd.n
   omega
  have hk : ∀ q ∈ xs.map (·.2), Nd.chkN q.1.N = 0 := fun q hq => by
   obtain ⟨x, hx1, rfl⟩ := List.mem_map.1 hq
   obtain ⟨y, hy, hye⟩ := List.mem_map.1 (List.mem_of_getElem? (h5 x hx1))
   rw [← hye]
   exact h.rd.ok y hy
  obtain ⟨R, mc, uc, hR⟩ := his_lay h6 h3 hn hk hp.1 hp.2
  refine ⟨R, v', mc, uc, rfl, hR, ?_⟩
  rw [show H.length = (exs H).length from (exs_len H).symm] at h4
  have he := prt_of (by rw [exs_len] at h4 ⊢; exact h4) h5
  rw [he, rchW_rch h.hst hy]
theorem rch_one (X : List EX) (U : List (List Nat)) (a : Hs) (j : Nat) : rch X U [a] j = hasW (U.getD (ixH (idsE X) a) []) j := by simp [rch]
theorem rW_one {H : List EP} {S : List (Nat × List Nat)} (hst : Hst (exs H) (S.map (·.2))) {a : Hs} (ha : a ∈ idsE (exs H)) (j : Nat) : hasW (rchW S H.length [ixH (idsE (exs H)) a]) j = rch (exs H) (S.map (·.2)) [a] j := by
 have h := rchW_rch hst (hs := [a]) (fun g hg => by rw [List.mem_singleton.1 hg]; exact ha)
 exact congrFun h j
theorem com_has {H : List EP} {S : List (Nat × List Nat)} (hst : Hst (exs H) (S.map (·.2))) {a b : Hs} (ha : a ∈ idsE (exs H)) (hb : b ∈ idsE (exs H)) (j : Nat) : hasW (comW H S a b) j = (rch (exs H) (S.map (·.2)) [a] j && rch (exs H) (S.map (·.2)) [b] j) := by
 rw [← rW_one hst ha, ← rW_one hst hb]
 by_cases hj : j / 64 < (H.length + 63) / 64
 ·unfold hasW comW
  rw [zipW_get _ _ _ _ _ (by rw [rchW_len]; exact hj), if_pos hj, andW, Nat.testBit_and]
 ·rw [hasW_far _ _ (by rw [comW_len]; omega), hasW_far _ _ (by rw [rchW_len]; omega)]
  rfl
theorem notW_bit (a b i : Nat) (hb : b < 18446744073709551616) (hi : i < 64) : (notW a b).testBit i = (a.testBit i && !b.testBit i) := by
 rw [notW, Nat.testBit_and, show 18446744073709551615 - b = 2 ^ 64 - (b + 1) by omega, Nat.testBit_two_pow_sub_succ (by simpa using hb), decide_eq_true hi, Bool.true_and]
theorem sin_has {H : List EP} {S : List (Nat × List Nat)} (hst : Hst (exs H) (S.map (·.2))) (hw : ∀ i, Wds (S.getD i (0, [])).2) {os ns : List Hs} (ho : ∀ g ∈ os, g ∈ idsE (exs H)) (hn : ∀ g ∈ ns, g ∈ idsE (exs H)) (j : Nat) : hasW (sinW H S os ns) j = (rch (exs H) (S.map (·.2)) ns j && !rch (exs H) (S.map (·.2)) os j) := by
 rw [← rchW_rch hst ho, ← rchW_rch hst hn]
 by_cases hj : j / 64 < (H.length + 63) / 64
 ·unfold hasW sinW
  rw [zipW_get _ _ _ _ _ (by rw [rchW_len]; exact hj), if_pos hj, notW_bit _ _ _ (rchW_wds hw _ _ _) (Nat.mod_lt _ (by omega))]
 ·rw [hasW_far _ _ (by rw [sinW_len]; omega), hasW_far _ _ (by rw [rchW_len]; omega)]
  rfl
theorem tpF_congr {I J : List Nat} (h : ∀ j, hasW I j = hasW J j) (S : List (Nat × List Nat)) (n : Nat) (pre : List (Fin n)) : tpF S I n pre = tpF S J n pre := by
 unfold tpF
 rw [show (fun (st : List Nat × List Nat) (i : Fin n) => stT S I st i.val) = fun st i => stT S J st i.val from funext fun st => funext fun i => by unfold stT; rw [h]]
structure ComT (X : List EX) (U : List (List Nat)) (i j : Nat) (T : List Nat) : Prop where
 mem : ∀ t ∈ T, t < X.length ∧ hasW (U.getD i []) t = true ∧ hasW (U.getD j []) t = true
 all : ∀ x, x < X.length → hasW (U.getD i []) x = true → hasW (U.getD j []) x = true → ∃ t ∈ T, hasW (U.getD t []) x = true
 un : ∀ a ∈ T, ∀ b ∈ T, hasW (U.getD b []) a = true → a = b
theorem ComT.one {X : List EX} {U : List (List Nat)} {i j : Nat} {T : List Nat} (h : ComT X U i j T) (hst : Hst X U) (hi : i < X.length) (hij : hasW (U.getD j []) i = true) : i ∈ T ∧ ∀ t ∈ T, t = i := by
 obtain ⟨t0, h1, h2⟩ := h.all i hi (hst.self hi) hij
 have h3 := h.mem t0 h1
 have e : t0 = i := by
  have := hst.le hi h3.2.1
  have := hst.le h3.1 h2
  omega
 rw [e] at h1
 exact ⟨h1, fun t ht => h.un t ht i h1 (h.mem t ht).2.1⟩
def ComAt (H : List EP) (S : List (Nat × List Nat)) (a b : Hs) : List Nat := (tpF S (comW H S a b) H.length (List.finRange H.length).reverse).1
theorem comAt_comm {H : List EP} {S : List (Nat × List Nat)} (hst : Hst (exs H) (S.map (·.2))) {a b : Hs} (ha : a ∈ idsE (exs H)) (hb : b ∈ idsE (exs H)) : ComAt H S a b = ComAt H S b a := by
 unfold ComAt
 have h : ∀ j, hasW (comW H S a b) j = hasW (comW H S b a) j := fun j => by rw [com_has hst ha hb, com_has hst hb ha, Bool.and_comm]
 rw [tpF_congr h]
theorem comAt_ok {H : List EP} {S : List (Nat × List Nat)} (hst : Hst (exs H) (S.map (·.2))) {a b : Hs} (ha : a ∈ idsE (exs H)) (hb : b ∈ idsE (exs H)) : ComT (exs H) (S.map (·.2)) (ixH (idsE (exs H)) a) (ixH (idsE (exs H)) b) (ComAt H S a b) := by
 have h := tops_of hst (comW H S a b) (exs_len H).symm
 refine ⟨fun t ht => ?_, fun x hx h1 h2 => h.all x hx ?_, h.un⟩
 ·have h1 := h.mem t ht
  have h2 := h1.2
  rw [com_has hst ha hb, Bool.and_eq_true, rch_one, rch_one] at h2
  exact ⟨h1.1, h2.1, h2.2⟩
 ·rw [com_has hst ha hb, Bool.and_eq_true, rch_one, rch_one]
  exact ⟨h1, h2⟩
theorem HisAt.wds {w : World} {p : Nat} {H : List EP} {S : List (Nat × List Nat)} {v : Value} {mb ub : Nat} (h : HisAt w p H S v mb ub) : ∀ i, Wds (S.getD i (0, [])).2 := fun i => by
 rw [List.getD_eq_getElem?_getD]
 rcases Nat.lt_or_ge i S.length with hi | hi
 ·rw [List.getElem?_eq_getElem hi]; exact (h.rd.s i hi).2.1
 ·rw [List.getElem?_eq_none hi]; exact fun _ => by simp
theorem his_common {w : World} {p : Nat} {H : List EP} {S : List (Nat × List Nat)} {v : Value} {mb ub : Nat} (h : HisAt w p H S v mb ub) (a b : Hs) (ha : a ∈ idsE (exs H)) (hb : b ∈ idsE (exs H)) : Calls Tryz.prog 27 #[.pointer (some ⟨p, 0, none⟩), .agg (bytesA 32 a.f), .agg (bytesA 32 b.f)] w fun e w' => ∃ v' L', e = .returned (.tuple #[v', .int .i64 0]) ∧ OwnH w' v' L' ∧ L'.Pairwise Lt ∧ (∀ x, x ∈ L' ↔ x ∈ (ComAt H S a b).map (idAt H)) ∧ Below w.heap.size w w' := by
 refine (common_any H S v p mb ub w h.rd h.sb h.sl a b).mono ?_
 rintro e w' ⟨h1, ⟨h2 | h2, -⟩ | ⟨-, -, v', L', rfl, h3, -, h4, h5⟩⟩
 ·exact absurd ha h2
 ·exact absurd hb h2
 ·exact ⟨v', L', rfl, h3, h4, h5, h1⟩
def sinL (X : List EX) (U : List (List Nat)) (os ns : List Hs) : List Nat := (List.range X.length).filter fun j => rch X U ns j && !rch X U os j
theorem his_since {w : World} {p : Nat} {H : List EP} {S : List (Nat × List Nat)} {v : Value} {mb ub : Nat} (h : HisAt w p H S v mb ub) (ov : Value) (os : List Hs) (hO : HRow w ov os) (hOl : os.length ≤ 4398046511104) (nv : Value) (ns : List Hs) (hN : HRow w nv ns) (hNl : ns.length ≤ 4398046511104) (ho : ∀ g ∈ os, g ∈ idsE (exs H)) (hn : ∀ g ∈ ns, g ∈ idsE (exs H)) : Calls Tryz.prog 45 #[.pointer (some ⟨p, 0, none⟩), ov, nv] w fun e w' => ∃ v', e = .returned (.tuple #[v', .int .i64 0]) ∧ OwnH w' v' ((sinL (exs H) (S.map (·.2)) os ns).map (idAt H)) ∧ Below w.heap.size w w' := by
 refine (since_any H S v p mb ub w h.rd h.sl ov os hO hOl nv ns hN hNl).mono ?_
 rintro e w' ⟨h1, ⟨⟨g, hg, hgn⟩, -⟩ | ⟨-, v', xs, rfl, h3, -, h4, h5⟩⟩
 ·rcases List.mem_append.1 hg with hg | hg
  ·exact absurd (ho g hg) hgn
  ·exact absurd (hn g hg) hgn
 ·refine ⟨v', rfl, ?_, h1⟩
  have e1 : sinL (exs H) (S.map (·.2)) os ns = xs.map (·.1) := by
   rw [h4]
   unfold sinL
   rw [exs_len]
   exact List.filter_congr fun j _ => (sin_has h.hst h.wds ho hn j).symm
  have e2 : (xs.map fun x => x.2.1.id) = (sinL (exs H) (S.map (·.2)) os ns).map (idAt H) := by
   rw [e1, List.map_map]
   refine List.map_congr_left fun x hx => ?_
   show x.2.1.id = idAt H x.1
   unfold idAt
   rw [h5 x hx]
   rfl
  rw [← e2]
  exact h3
theorem sinL_mem {X : List EX} {U : List (List Nat)} {os ns : List Hs} {j : Nat} : j ∈ sinL X U os ns ↔ j < X.length ∧ rch X U ns j = true ∧ rch X U os j = false := by
 unfold sinL
 rw [List.mem_filter, List.mem_range, Bool.and_eq_true]
 simp
theorem sinL_lt (X : List EX) (U : List (List Nat)) (os ns : List Hs) : (sinL X U os ns).Pairwise (· < ·) := (List.pairwise_lt_range).filter _
theorem sinL_self (X : List EX) (U : List (List Nat)) (os : List Hs) : sinL X U os os = [] := by
 unfold sinL
 rw [List.filter_eq_nil_iff]
 intro j _
 cases rch X U os j <;> simp
theorem count3 (p q r : Nat → Bool) : ∀ l : List Nat, (∀ x ∈ l, r x = (p x || q x)) → (l.filter fun x => p x && !q x).length + (l.filter q).length = (l.filter r).length
 | [], _ => rfl
 | x :: l, h => by
  have ih := count3 p q r l fun y hy => h y (List.mem_cons_of_mem _ hy)
  have hx := h x List.mem_cons_self
  cases hp : p x <;> cases hq : q x <;> simp [List.filter_cons, hp, hq, hx] at ih ⊢ <;> omega
theorem since_len {X : List EX} {U : List (List Nat)} (a b : Hs) : (sinL X U [a] [b]).length + (prt X (rch X U [a])).length = (prt X (rch X U [b, a, b])).length := by
 rw [prt_len, prt_len]
 unfold sinL pos
 refine count3 _ _ _ _ fun x _ => ?_
 simp only [rch, List.any_cons, List.any_nil, Bool.or_false]
 cases hasW (U.getD (ixH (idsE X) b) []) x <;> cases hasW (U.getD (ixH (idsE X) a) []) x <;> rfl
theorem num_out {ids : List Hs} {h : Hs} (hh : h ∉ ids) : numV ids h = -1 := by rw [numV, if_neg fun k => hh (ixH_lt.1 k)]
end Go.Proofs.YthlohkgdmfkpeaaGreat
