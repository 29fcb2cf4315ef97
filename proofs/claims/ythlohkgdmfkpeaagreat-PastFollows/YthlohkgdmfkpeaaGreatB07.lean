import Derived.Test.YthlohkgdmfkpeaaGreatB06
import Derived.Deep.DeepAppendRoom
namespace Go.Proofs.YthlohkgdmfkpeaaGreat
open Go.RowKit
set_option linter.unusedSimpArgs false
set_option linter.unusedVariables false

theorem Tryz.in173 (w : World) (vs : Array Value) : (callFunc 173 vs).run Tryz.prog w = .ok (.enter 173 vs) w := by kernel_rfl
theorem yieldsIf_slr {ops : Array Oper} {S : World → Prop} {op : Oper} {a : Act} (hw : Region.wanted op (yielded ops a.tmps) = true) (t : TypeId) (x : Operand) (lo hi : Option Operand) (ho : op.op = .slice t x lo hi none)
  (vx : Value) (vlo vhi : Option Value) (vs : Value) (hx : a.eval x = vx) (hl : lo.map a.eval = vlo) (hh : hi.map a.eval = vhi) (hr : ∀ w : World, (Instr.sliceAt t vx vlo vhi none).run Tryz.prog w = .ok vs w) : YieldsIf Tryz.prog ops S op vs a :=
 .inl ⟨hw, fun w _ => by unfold execOp; simp only [ho, hx, hl, hh, Option.map_none, Sem.run_bind, hr w, Result.andThen_ok, Sem.run_pure]⟩
theorem WL.sl3 {ops : Array Oper} {rest : List Oper} {o : Oper} {a : Act} {w : World} {Q : Exit → Act → World → Prop} (hw : Region.wanted o (yielded ops a.tmps) = true) (t : TypeId) (x : Operand) (lo hi mx : Option Operand) (ho : o.op = .slice t x lo hi mx)
  (vx : Value) (vlo vhi vmx : Option Value) (vs : Value) (hx : a.eval x = vx) (hl : lo.map a.eval = vlo) (hh : hi.map a.eval = vhi) (hm : mx.map a.eval = vmx) (hr : (Instr.sliceAt t vx vlo vhi vmx).run Tryz.prog w = .ok vs w) (h : WL Tryz.prog ops Q rest (a.put o.dst vs) w) : WL Tryz.prog ops Q (o :: rest) a w :=
 WL.val hw vs (by unfold execOp; simp only [ho, hx, hl, hh, hm, Sem.run_bind, hr, Result.andThen_ok, Sem.run_pure]) h
theorem slH_3 (a : Option Addr) (n c i j m : Nat) (h1 : i ≤ j) (h2 : j ≤ m) (h3 : m ≤ c) (w : World) : (Instr.sliceAt 24 (.slice a n c) (some (.int .i64 (i : Int))) (some (.int .i64 (j : Int))) (some (.int .i64 (m : Int)))).run Tryz.prog w = .ok (sliced a i j m 32) w := by
 have k1 := run_slice_lhm (P := Tryz.prog) (w := w) 24 a n c slH_u .i64 .i64 .i64 (i : Int) (j : Int) (m : Int) (by omega) (by omega) (by omega) (by omega)
 have k2 := run_sliceAt_slice (P := Tryz.prog) (w := w) 24 (.slice a n c) (some (.int .i64 (i : Int))) (some (.int .i64 (j : Int))) (some (.int .i64 (m : Int))) slH_u
 rw [k2, k1, Tryz.elem24, Tryz.sizeOf36, Result.andThen_ok, Int.toNat_natCast, Int.toNat_natCast, Int.toNat_natCast]
theorem slH_lh (a : Option Addr) (n c i j : Nat) (h1 : i ≤ j) (h2 : j ≤ c) (w : World) : (Instr.sliceAt 24 (.slice a n c) (some (.int .i64 (i : Int))) (some (.int .i64 (j : Int))) none).run Tryz.prog w = .ok (sliced a i j c 32) w := by
 have k1 := run_slice_lh (P := Tryz.prog) (w := w) 24 a n c slH_u .i64 .i64 (i : Int) (j : Int) (by omega) (by omega) (by omega)
 have k2 := run_sliceAt_slice (P := Tryz.prog) (w := w) 24 (.slice a n c) (some (.int .i64 (i : Int))) (some (.int .i64 (j : Int))) none slH_u
 rw [k2, k1, Tryz.elem24, Tryz.sizeOf36, Result.andThen_ok, Int.toNat_natCast, Int.toNat_natCast]
theorem run_clr1 (w : World) (g k c : Nat) (cur : Array Value) (ty : TypeId) (hg : Blk w g 36 cur) (hk : k * 32 + 32 ≤ cur.size) : ∃ cur' : Array Value,
  (Builtin.clear_ #[24] ty #[.slice (some ⟨g, k * 32, none⟩) 1 c]).run Tryz.prog w = .ok (.tuple #[]) (w.setRow g cur') ∧ cur'.size = cur.size ∧ cur'.toList.take (k * 32) = cur.toList.take (k * 32) := by
 have hfl : (flatH [default]).length = 32 := by rw [flatH_len]; rfl
 have hst := run_storeCells_at Tryz.prog g (k * 32) 36 (flatH [default]) 0 cur w hg (by rw [hfl]; omega) (flatH_one _)
 obtain ⟨i, hi, hzz⟩ := Option.map_eq_some_iff.1 Tryz.info36
 simp only [Prod.mk.injEq] at hzz
 refine ⟨(cur.toList.take (k * 32 + 0) ++ flatH [default] ++ cur.toList.drop (k * 32 + 0 + (flatH [default]).length)).toArray, ?_, ?_, ?_⟩
 ·simp [Builtin.clear_, zeroValue, typeInfo, hi, hzz.1, Value.cells, zeroCellsH, hst]
 ·simp only [List.size_toArray, List.length_append, List.length_take, List.length_drop, Array.length_toList, hfl]; omega
 ·simp only [Nat.add_zero]
  rw [List.append_assoc, List.take_append_of_le_length (by simp; omega), List.take_take, Nat.min_self]
theorem WL.clr1 {ops : Array Oper} {rest : List Oper} {o : Oper} {a : Act} {w : World} {Q : Exit → Act → World → Prop} (hw : Region.wanted o (yielded ops a.tmps) = true) (x : Operand)
  (ho : o.op = .call { callee := .builtin .clear, args := #[x], argTypes := #[24] }) (g k c : Nat) (cur : Array Value) (hx : a.eval x = .slice (some ⟨g, k * 32, none⟩) 1 c) (hg : Blk w g 36 cur) (hk : k * 32 + 32 ≤ cur.size)
  (h : ∀ cur' : Array Value, cur'.size = cur.size → cur'.toList.take (k * 32) = cur.toList.take (k * 32) → WL Tryz.prog ops Q rest (a.put o.dst (.tuple #[])) (w.setRow g cur')) : WL Tryz.prog ops Q (o :: rest) a w :=
 ⟨wpList_wanted hw fun K hK => by
  obtain ⟨cur', hr, h1, h2⟩ := run_clr1 w g k c cur o.type hg hk
  unfold Oper.wp execOp
  simp only [ho, resolve, invoke, builtin, Sem.run_bind, Sem.run_pure, Result.andThen_ok, List.map_toArray, List.map_cons, List.map_nil, hx, hr]
  exact hK _ _ (h cur' h1 h2).out⟩
theorem ownH_take {w : World} {g n cap : Nat} {l : List Hs} (h : OwnH w (.slice (some ⟨g, 0, none⟩) n cap) l) (i : Nat) (hi : i ≤ l.length) : w.ownsRow 0 36 32 (.slice (some ⟨g, 0, none⟩) i cap) i (flatH (l.take i)) := by
 rcases h.2 with ⟨h0, _⟩ | ⟨g', cap', cur, hv, h2, h3, h4, h5, h6, h7⟩
 ·cases h0
 ·injection hv with e1 e2 e3
  injection e1 with e1
  injection e1 with e1
  subst e1 e3
  refine ⟨by rw [flatH_len, List.length_take]; congr 1; omega, .inr ⟨g, cap, cur, rfl, h2, h3, by omega, h5, h6, ?_⟩⟩
  rw [← flatH_take, ← h7, List.take_take, Nat.min_eq_left (Nat.mul_le_mul_right _ hi)]
theorem ownH_rng {w : World} {g n cap : Nat} {l : List Hs} (h : OwnH w (.slice (some ⟨g, 0, none⟩) n cap) l) : w.rangeAt g 0 (flatH l) := by
 rcases h.2 with ⟨h0, _⟩ | ⟨g', cap', cur, hv, h2, h3, h4, h5, h6, h7⟩
 ·cases h0
 ·injection hv with e1 e2 e3
  injection e1 with e1
  injection e1 with e1
  subst e1
  intro j v hj
  have h3' : Blk w g 36 cur := h3
  have hjl := (List.getElem?_eq_some_iff.1 hj).1
  rw [← h7] at hj hjl
  rw [Nat.zero_add, h3'.cell, ← Array.getElem?_toList]
  rw [List.getElem?_take] at hj
  split at hj
  ·exact hj
  ·cases hj
set_option maxRecDepth 8000 in
set_option maxHeartbeats 400000 in
theorem del_one (g cap i : Nat) (l : List Hs) (w : World) (hO : OwnH w (.slice (some ⟨g, 0, none⟩) l.length cap) l) (hi : i < l.length) (hc : l.length ≤ cap) (hcm : cap ≤ maxLen) (hL : l.length ≤ 4398046511104) : Calls Tryz.prog 173 #[.slice (some ⟨g, 0, none⟩) l.length cap, .int .i64 (i : Int), .int .i64 ((i + 1 : Nat) : Int)] w fun e w' => ∃ n, e = .returned (.slice (some ⟨g, 0, none⟩) n cap) ∧ OwnH w' (.slice (some ⟨g, 0, none⟩) n cap) (l.take i ++ l.drop (i + 1)) ∧ Grown w w' fun k => k = g := by
 have HO := Keep.mk hO
 have Hi := Keep.mk hi
 have Hc := Keep.mk hc
 have Hcm := Keep.mk hcm
 have HL := Keep.mk hL
 clear hO hi hc hcm hL
 go_enter Tryz.func173, Tryz.ntmps173
 refine wp_seq_k fun K1 hK1 => rgn ?_
 refine VlS (.slice none 0 0) ?_
 refine WL.nil (hK1 _ _ ?_)
 refine wp_seq_k fun K2 hK2 => rgn ?_
 refine VlS (.slice (some ⟨g, 0, none⟩) l.length cap) ?_
 refine VlS (.int .i64 (i : Int)) ?_
 refine VlS (.int .i64 ((i + 1 : Nat) : Int)) ?_
 refine VlS (.slice (some ⟨g, 0, none⟩) l.length cap) ?_
 refine VlS (.int .i64 (l.length : Int)) ?_
 refine WL.sl3 (by kernel_rfl) 24 (.tmp 8) (some (.tmp 9)) (some (.tmp 10)) (some (.tmp 12)) rfl _ (some (.int .i64 (i : Int))) (some (.int .i64 ((i + 1 : Nat) : Int))) (some (.int .i64 (l.length : Int))) (sliced (some ⟨g, 0, none⟩) i (i + 1) l.length 32) rfl rfl rfl rfl (slH_3 _ _ _ _ _ _ (by omega) (by have := Hi.out; omega) Hc.out w) ?_
 simp only [Act.put, pqA, pqB, pqC]
 refine WL.nil (hK2 _ _ ?_)
 refine wp_seq_k fun K3 hK3 => ?_
 refine wp_seq_k fun K4 hK4 => rgn ?_
 refine VlS (.int .i64 (i : Int)) ?_
 refine VlS (.int .i64 ((i + 1 : Nat) : Int)) ?_
 have hne_ : ¬ (i : Int) = (i : Int) + 1 := by omega
 refine VbF ?_
 refine WL.nil (hK4 _ _ ?_)
 refine wp_cond_false rfl ?_
 refine wp_skip ?_
 refine hK3 _ _ ?_
 refine wp_seq_k fun K5 hK5 => rgn ?_
 refine VlS (.slice (some ⟨g, 0, none⟩) l.length cap) ?_
 refine VlS (.int .i64 (l.length : Int)) ?_
 refine VlS (.int .i64 (l.length : Int)) ?_
 refine WL.nil (hK5 _ _ ?_)
 refine wp_seq_k fun K6 hK6 => ?_
 obtain ⟨ad, mm, cc, hsl, hmm, had⟩ : ∃ ad mm cc, sliced (some ⟨g, 0, none⟩) (i + 1) l.length cap 32 = .slice (some ad) mm cc ∧ mm = l.length - (i + 1) ∧ (0 < mm → ad = ⟨g, (i + 1) * 32, none⟩) := by
  refine ⟨if cap = i + 1 then ⟨g, 0, none⟩ else ⟨g, (i + 1) * 32, none⟩, l.length - (i + 1), cap - (i + 1), ?_, rfl, fun h => if_neg (by have := Hc.out; omega)⟩
  unfold sliced
  split <;> simp [Addr.add]
 have Hsl := Keep.mk hsl
 have Hmm := Keep.mk hmm
 have Had := Keep.mk had
 clear hsl hmm had
 refine wp_region_held_drew (S := fun _ => True) (by kernel_rfl) (trivial) (fun hHeld => ?_)
 refine TkG (i := 0) (oi := ⟨some 20, Op.move (Operand.tmp 0), 24, _, _, none⟩) (v := .slice (some ⟨g, 0, none⟩) l.length cap) rfl hHeld ?_
 refine TkG (i := 1) (oi := ⟨some 21, Op.move (Operand.tmp 1), 3, _, _, none⟩) (v := .int .i64 (i : Int)) rfl hHeld ?_
 refine tkS (i := 2) (oi := ⟨some 22, Op.slice 24 (Operand.tmp 20) none (some (Operand.tmp 21)) none, 24, _, _, none⟩) (v := .slice (some ⟨g, 0, none⟩) i cap) rfl (yieldsIf_slr (by rfl) 24 (Operand.tmp 20) none (some (Operand.tmp 21)) rfl _ none (some (.int .i64 (i : Int))) _ rfl rfl rfl fun w => slH_h _ _ _ i (by have := Hc.out; have := Hi.out; omega) w) hHeld ?_
 refine TkG (i := 3) (oi := ⟨some 23, Op.move (Operand.tmp 0), 24, _, _, none⟩) (v := .slice (some ⟨g, 0, none⟩) l.length cap) rfl hHeld ?_
 refine TkG (i := 4) (oi := ⟨some 24, Op.move (Operand.tmp 2), 3, _, _, none⟩) (v := .int .i64 ((i + 1 : Nat) : Int)) rfl hHeld ?_
 refine tkS (i := 5) (oi := ⟨some 25, Op.slice 24 (Operand.tmp 23) (some (Operand.tmp 24)) none none, 24, _, _, none⟩) (v := .slice (some ad) mm cc) rfl (yieldsIf_slr (by rfl) 24 (Operand.tmp 23) (some (Operand.tmp 24)) none rfl _ (some (.int .i64 ((i + 1 : Nat) : Int))) none _ rfl rfl rfl fun w => (slH_l _ _ _ (i + 1) (by have := Hi.out; omega) w).trans (by rw [Hsl.out])) hHeld ?_
 refine wpAnyH_ready (rs := [6]) (by kernel_rfl) (by simp) ?_
 refine AllReadyH.cons (o := ⟨some 26, Op.call { callee := Callee.builtin Builtin.append, args := #[Operand.tmp 22, Operand.tmp 25], argTypes := #[24, 24] }, 24, _, _, none⟩) rfl (fun K hK => ?_) AllReadyH.nil
 rw [if_pos (by rfl)]
 obtain ⟨ti, hti, hzz⟩ := Option.map_eq_some_iff.1 Tryz.info36
 simp only [Prod.mk.injEq] at hzz
 refine wp_append_own_spare w.drew (Operand.tmp 22) (Operand.tmp 25) 24 rfl 0 36 ti 32 Tryz.underlying24 hti hzz.2.1 g i cap (flatH (l.take i)) rfl (ownH_take HO.out i (by have := Hi.out; omega)) ad mm cc (flatH (l.drop (i + 1))) rfl (by rw [flatH_len, List.length_drop, Hmm.out]) (fun j u hu => ?_) (flatH_one _) (by have := Hc.out; have := Hi.out; have := Hmm.out; omega) fun w1 h1 h2 => ?_
 ·have hpos : 0 < mm := by
   have := (List.getElem?_eq_some_iff.1 hu).1
   rw [flatH_len, List.length_drop] at this
   have := Hmm.out; omega
  have h := rangeAt_drop (ownH_rng HO.out) (i + 1) (by have := Hi.out; omega) j u hu
  rw [Nat.zero_add] at h
  rw [Had.out hpos, Addr.add_mid]
  exact h
 have HW1 := Keep.mk h1
 have HG1 := Keep.mk h2
 clear hzz hti h1 h2
 refine hK _ _ trivial fun hH1 => ?_
 clear hK
 simp only [Act.put, pqA, pqB, pqC]
 refine TkG (i := 7) (oi := ⟨some 0, Op.assign (Operand.tmp 26), 24, _, _, none⟩) (v := .slice (some ⟨g, 0, none⟩) (i + mm) cap) rfl hH1 ?_
 refine wpAnyH_done (by kernel_rfl) ?_ _
 refine hK6 _ _ ?_
 refine wp_seq_k fun K7 hK7 => rgn ?_
 refine VlS (.slice (some ⟨g, 0, none⟩) (i + mm) cap) ?_
 refine VlS (.slice (some ⟨g, 0, none⟩) (i + mm) cap) ?_
 refine VlS (.int .i64 ((i + mm : Nat) : Int)) ?_
 refine VlS (.int .i64 (l.length : Int)) ?_
 refine WL.slr (by kernel_rfl) 24 (.tmp 27) (some (.tmp 29)) (some (.tmp 30)) rfl _ (some (.int .i64 ((i + mm : Nat) : Int))) (some (.int .i64 (l.length : Int))) (.slice (some ⟨g, (i + mm) * 32, none⟩) 1 (cap - (i + mm))) rfl rfl rfl ((slH_lh _ _ _ (i + mm) l.length (by have := Hmm.out; have := Hi.out; omega) Hc.out _).trans (by have := Hmm.out; have := Hi.out; have := Hc.out; unfold sliced; rw [if_neg (by omega), show l.length - (i + mm) = 1 by omega, Option.map_some, Addr.add_mid, Nat.zero_add])) ?_
 simp only [Act.put, pqA, pqB, pqC]
 obtain ⟨cur, hcur, hcs, hct⟩ : ∃ cur : Array Value, Blk w1 g 36 cur ∧ cur.size = cap * 32 ∧ cur.toList.take ((i + mm) * 32) = flatH (l.take i ++ l.drop (i + 1)) := by
  rcases HW1.out.2 with ⟨h0, _⟩ | ⟨g', cap', cur, hv, h2, h3, h4, h5, h6, h7⟩
  ·cases h0
  ·injection hv with e1 e2 e3
   injection e1 with e1
   injection e1 with e1
   subst e1 e3
   exact ⟨cur, h3, h6, by rw [flatH_app]; exact h7⟩
 refine WL.clr1 (by kernel_rfl) (.tmp 31) rfl g (i + mm) _ cur rfl hcur (by rw [hcs]; have := Hmm.out; have := Hi.out; have := Hc.out; omega) fun cur' k1 k2 => ?_
 have HF : Keep (OwnH (w1.setRow g cur') (.slice (some ⟨g, 0, none⟩) (i + mm) cap) (l.take i ++ l.drop (i + 1))) := ⟨by
  have hl : (l.take i ++ l.drop (i + 1)).length = i + mm := by rw [List.length_append, List.length_take, List.length_drop]; have := Hmm.out; have := Hi.out; omega
  unfold OwnH
  rw [hl]
  exact ⟨by rw [flatH_len, hl], .inr ⟨g, cap, cur', rfl, Nat.zero_le _, hcur.setRow cur', by have := Hmm.out; have := Hi.out; have := Hc.out; omega, Hcm.out, by rw [k1, hcs], by rw [k2, hct]⟩⟩⟩
 have HGr : Keep (Grown w (w1.setRow g cur') fun k => k = g) := ⟨((Grown.refl w _).drew.trans (Grown.of HG1.out fun k _ e => (Option.some.inj e).symm)).trans (Grown.setRow w1 g cur' fun _ => rfl)⟩
 clear hcur hcs hct k1 k2 HW1 HG1
 simp only [Act.put]
 refine WL.nil (hK7 _ _ ?_)
 refine wp_seq_k fun K8 hK8 => rgn ?_
 refine VlS (.slice (some ⟨g, 0, none⟩) (i + mm) cap) ?_
 refine VlS (.slice (some ⟨g, 0, none⟩) (i + mm) cap) ?_
 refine WL.nil (hK8 _ _ ?_)
 refine wp_ret ?_
 go_ret
 exact ⟨i + mm, rfl, HF.out, HGr.out⟩
theorem Tryz.in97 (w : World) (vs : Array Value) : (callFunc 97 vs).run Tryz.prog w = .ok (.enter 97 vs) w := by kernel_rfl
def NewL (w w' : World) (v v' : Value) (l' : List Hs) : Prop := OwnH w' v' l' ∧ (Grown w w' fun k => v.ownBlock = some k) ∧ Moved w v v'
def InsOk (l : List Hs) (i : Nat) (y : Hs) (l' : List Hs) : Prop := ∀ (v : Value) (gx : Nat) (w : World), OwnH w v l → Blk w gx 36 (bytesA 32 y.f) → v.ownBlock ≠ some gx → Calls Tryz.prog 125 #[v, .int .i64 (i : Int), .slice (some ⟨gx, 0, none⟩) 1 1] w fun e w' => ∃ v', e = .returned v' ∧ NewL w w' v v' l'
def DelOk (l : List Hs) (x : VX) (l' : List Hs) : Prop := ∀ (v p : Value) (b : Nat) (w : World), OwnH w v l → Blk w b 139 (vtx x.id.f x.ck p) → HRow w p x.ps → (∀ k, v.ownBlock = some k → p.ownBlock ≠ some k) → Calls Tryz.prog 127 #[v, .func (.func 128) #[] #[ptr b]] w fun e w' => ∃ v', e = .returned v' ∧ NewL w w' v v' l'
structure Ste (w w' : World) (Av : Nat → Prop) (d : Nat) (g g' : DG) : Prop where
 at' : DagAt w' (fun k => Av k ∨ DgS d g' k) d g'
 grown : Grown w w' (DgS d g)
 sub : ∀ k, DgS d g' k → DgS d g k ∨ w.heap.size ≤ k
theorem wp_bs {P : Program} {Q : Exit → Act → World → Prop} {o : Oper} {a : Act} {w : World} {K : Act → World → Prop} (t : TypeId) (n : Nat) (parts : Array (Nat × Operand)) (ho : o.op = .buildSlice t n parts)
  (vs : Array (Nat × Value)) (hv : (parts.map fun (i, x) => (i, a.eval x)) = vs) (v : Value) (w' : World) (hrun : (Instr.buildSlice t n vs).run P w = .ok v w') (h : K (a.put o.dst v) w') : o.wp P a w K Q := by
 unfold Oper.wp execOp
 simp only [ho, hv, Sem.run_bind, hrun, Result.andThen_ok]
 exact h
theorem take_end {w w9 : World} {Av Av9 : Nat → Prop} {d : Nat} {g : DG} {v : VX} {v4 v6 v9 : Value} {o' h1 h2 : List Hs} (h : DagAt w Av d g) (h9 : DagAt w9 Av9 d { { { { g with held := g.held ++ [v] } with ov := v4, order := o' } with hv := v6, heads := h1 } with hv := v9, heads := h2 }) (hA : ∀ k, Av k → Av9 k) (hg : Grown w w9 (DgS d g)) (m4 : Moved w g.ov v4) (m6 : Moved w g.hv v6) (m8 : Moved w v6 v9) : Ste w w9 Av d g { { { { g with held := g.held ++ [v] } with ov := v4, order := o' } with hv := v6, heads := h1 } with hv := v9, heads := h2 } := by
 refine ⟨h9.avInto (fun k hk => hk.elim (hA k) (h9.av k)) (fun k hk => .inr hk), hg, ?_⟩
 rintro k (hk | hk | hk | hk | hk | hk)
 ·exact .inl (.inl hk)
 ·exact .inl (.inr (.inl hk))
 ·exact .inl (.inr (.inr (.inl hk)))
 ·have hk : v9.ownBlock = some k := hk
  rcases m8 with e | ⟨q, e, hq⟩
  ·rw [e] at hk
   rcases m6 with e | ⟨q, e, hq⟩
   ·rw [e] at hk; exact .inl (.inr (.inr (.inr (.inl hk))))
   ·rw [hk] at e; have := Option.some.inj e; right; omega
  ·rw [hk] at e; have := Option.some.inj e; right; omega
 ·have hk : v4.ownBlock = some k := hk
  rcases m4 with e | ⟨q, e, hq⟩
  ·rw [e] at hk; exact .inl (.inr (.inr (.inr (.inr (.inl hk)))))
  ·rw [hk] at e; have := Option.some.inj e; right; omega
 ·exact .inl (.inr (.inr (.inr (.inr (.inr hk)))))
set_option maxRecDepth 8000 in
set_option maxHeartbeats 2000000 in
theorem take_gen (d : Nat) (v : VX) (p : Value) (Av : Nat → Prop) (g : DG) (w : World) (at_ : Nat) (o' h1 h2 : List Hs) (hD : DagAt w Av d g) (hr : HRow w p v.ps) (hk : ∀ k, p.ownBlock = some k → k < w.heap.size ∧ ¬ Av k) (hF : g.held.find? (isV v.id) = none)
  (hP : ∀ (w1 : World) (Av1 : Nat → Prop) (p1 : Value) (g1 : DG), DagAt w1 Av1 d g1 → g1.order = g.order → HRow w1 p1 v.ps → Calls Tryz.prog 126 #[ptr d, .agg (vtx v.id.f v.ck p1)] w1 fun e w' => e = .returned (.int .i64 (at_ : Int)) ∧ Below w1.heap.size w1 w')
  (hI1 : InsOk g.order at_ v.id o') (hDf : DelOk g.heads v h1) (hInc : Inc h1) (hIl : h1.length ≤ 1000000000000) (hI2 : ∀ i, i ≤ h1.length → (∀ k, k < i → Lt (h1.getD k default) v.id) → (∀ k, i ≤ k → k < h1.length → ¬ Lt (h1.getD k default) v.id) → InsOk h1 i v.id h2) :
  Calls Tryz.prog 97 #[ptr d, .agg (vtx v.id.f v.ck p)] w fun e w' => e = .returned (.tuple #[]) ∧ ∃ g', Ste w w' Av d g g' ∧ g'.room = g.room ∧ g'.held = g.held ++ [v] ∧ g'.wait = g.wait ∧ g'.queue = g.queue ∧ g'.order = o' ∧ g'.heads = h2 := by
 obtain ⟨pa, pc, rfl⟩ := hr.form
 obtain ⟨vv, hvv⟩ : ∃ a : Array Value, Keep (a = vtx v.id.f v.ck (.slice pa v.ps.length pc)) := ⟨_, ⟨rfl⟩⟩
 rw [← hvv.out]
 have HD := Keep.mk hD
 have HR := Keep.mk hr
 have HK := Keep.mk hk
 have HF := Keep.mk hF
 have HP := Keep.mk hP
 have HI1 := Keep.mk hI1
 have HDf := Keep.mk hDf
 have HInc := Keep.mk hInc
 have HIl := Keep.mk hIl
 have HI2 := Keep.mk hI2
 clear hD hr hk hF hP hI1 hDf hInc hIl hI2
 go_enter Tryz.func97, Tryz.ntmps97
 refine wp_seq_k fun K1 hK1 => rgn ?_
 refine WL.box (by kernel_rfl) 139 (.tmp 1) rfl (vv) rfl ?_
 obtain ⟨w1, hwn⟩ : ∃ wx, Keep (wx = w.alloc (.cells (vv) 139)) := ⟨_, ⟨rfl⟩⟩
 rw [← hwn.out]
 have HX1 : Keep (Blk w1 w.heap.size 139 (vv)) := ⟨by rw [hwn.out]; exact Blk.new _ _ _⟩
 have LB1 : Keep (Below w.heap.size w w1) := ⟨by rw [hwn.out]; exact below_new _ _⟩
 clear hwn
 have HD1 := Keep.mk (HD.out.below LB1.out)
 have HR1 := Keep.mk (HR.out.below LB1.out)
 have HK1 : Keep (∀ k, (Value.slice pa v.ps.length pc).ownBlock = some k → k < w1.heap.size ∧ ¬ Av k) := ⟨fun k hk => ⟨Nat.lt_of_lt_of_le (HK.out k hk).1 LB1.out.size, (HK.out k hk).2⟩⟩
 clear HR
 simp only [Act.put, pqA, pqB, pqC]
 refine WL.nil (hK1 _ _ ?_)
 refine wp_seq_k fun K2 hK2 => ?_
 have hS0 : Keep ((fun wx => wx.cell? ⟨d, 1, none⟩ = some (.map (some g.hb)) ∧ wx.rangeAt w.heap.size 0 (bytesA 32 v.id.f).toList ∧ wx.rangeAt w.heap.size 0 vv.toList) w1.drew) := ⟨⟨HD1.out.blk.drew.c 1 rfl, vtx_rng (hvv.out ▸ HX1.out.drew), blk_rng HX1.out.drew⟩⟩
 obtain ⟨w2, hr2, hm2, hg2⟩ := upd_new (HD1.out.drew).held (HD1.out.av _ (.inr (.inl rfl))) v HF.out _ (HR1.out.below (Below.refl _ _).drew) HK1.out
 rw [← hvv.out] at hr2
 refine wp_region_held_drew (S := fun wx => wx.cell? ⟨d, 1, none⟩ = some (.map (some g.hb)) ∧ wx.rangeAt w.heap.size 0 (bytesA 32 v.id.f).toList ∧ wx.rangeAt w.heap.size 0 vv.toList) (by kernel_rfl) (hS0.out) (fun hHeld => ?_)
 refine tkS (i := 0) (oi := ⟨some 6, Op.move (Operand.tmp 0), 133, _, _, none⟩) (v := .pointer (some ⟨d, 0, none⟩)) rfl (Or.inl ⟨by rfl, fun w hS => by obtain ⟨hS1, hS2, hS3⟩ := hS; go_simp⟩) hHeld ?_
 refine tkS (i := 1) (oi := ⟨some 7, Op.nilCheck (Operand.tmp 6), 0, _, _, none⟩) (v := .pointer (some ⟨d, 0, none⟩)) rfl (Or.inl ⟨by rfl, fun w hS => by obtain ⟨hS1, hS2, hS3⟩ := hS; go_simp⟩) hHeld ?_
 refine tkS (i := 2) (oi := ⟨some 8, Op.fieldAddr 152 (Operand.tmp 7) 1, 0, _, _, none⟩) (v := .pointer (some ⟨d, 1, none⟩)) rfl (Or.inl ⟨by rfl, fun w hS => by obtain ⟨hS1, hS2, hS3⟩ := hS; go_simp⟩) hHeld ?_
 refine tkS (i := 3) (oi := ⟨some 9, Op.load 150 (Operand.tmp 8), 150, _, _, none⟩) (v := .map (some g.hb)) rfl (Or.inl ⟨by rfl, fun w hS => by obtain ⟨hS1, hS2, hS3⟩ := hS; go_simp⟩) hHeld ?_
 refine tkS (i := 4) (oi := ⟨some 10, Op.fieldAddr 139 (Operand.tmp 3) 0, 0, _, _, none⟩) (v := .pointer (some ⟨w.heap.size, 0, none⟩)) rfl (Or.inl ⟨by rfl, fun w hS => by obtain ⟨hS1, hS2, hS3⟩ := hS; go_simp⟩) hHeld ?_
 refine tkS (i := 5) (oi := ⟨some 11, Op.load 36 (Operand.tmp 10), 36, _, _, none⟩) (v := .agg (bytesA 32 v.id.f)) rfl (yieldsIf_ld (by rfl) (Operand.tmp 10) 36 rfl w.heap.size 0 rfl (bytesA 32 v.id.f) _ Tryz.underlying36 rfl (size36A _) fun w hS => hS.2.1) hHeld ?_
 refine tkS (i := 6) (oi := ⟨some 12, Op.load 139 (Operand.tmp 3), 139, _, _, none⟩) (v := .agg vv) rfl (yieldsIf_ld (by rfl) (Operand.tmp 3) 139 rfl w.heap.size 0 rfl vv _ Tryz.underlying139 rfl (by rw [hvv.out]; exact Tryz.info139s _ _ _) fun w hS => hS.2.2) hHeld ?_
 refine wpAnyH_ready (rs := [7]) (by kernel_rfl) (by simp) ?_
 refine AllReadyH.cons (o := ⟨none, Op.mapUpdate 150 (Operand.tmp 9) (Operand.tmp 11) (Operand.tmp 12), 0, _, _, none⟩) rfl (fun K hK => ?_) AllReadyH.nil
 rw [if_pos (by rfl)]
 refine wp_upd (Operand.tmp 9) (Operand.tmp 11) (Operand.tmp 12) rfl _ _ _ rfl rfl rfl w2 hr2 ?_
 have HX2 := Keep.mk (hg2.blk HX1.out.drew fun e => HD1.out.held.ne HX1.out e)
 have HD2 := Keep.mk (HD1.out.drew.addHeld hm2 hg2)
 have HR2 := Keep.mk ((HR1.out.below (Below.refl _ _).drew).grown hg2 fun b o n c e hb => by subst hb; exact (HK1.out _ (by rw [e]; rfl)).2 (HD1.out.av _ (.inr (.inl rfl))))
 have G2 : Keep (Grown w w2 (DgS d g)) := ⟨(Grown.below (S := DgS d g) LB1.out).next (T := fun k => k = g.hb) ((Grown.refl w1 _).drew.trans hg2) fun i _ e => e ▸ .inr (.inl rfl)⟩
 have HK2 : Keep (∀ k, (Value.slice pa v.ps.length pc).ownBlock = some k → k < w2.heap.size ∧ ¬ Av k) := ⟨fun k hk => ⟨Nat.lt_of_lt_of_le (HK1.out k hk).1 hg2.size, (HK1.out k hk).2⟩⟩
 refine hK _ _ ⟨HD2.out.blk.c 1 rfl, vtx_rng (hvv.out ▸ HX2.out), blk_rng HX2.out⟩ fun hH1 => ?_
 clear hK hr2 hm2 hg2 hS0 HX1 HD1 HR1 HK1
 simp only [Act.put, pqA, pqB, pqC]
 refine wpAnyH_done (by kernel_rfl) ?_ _
 refine hK2 _ _ ?_
 refine wp_seq_k fun K3 hK3 => ?_
 obtain ⟨oa, oc, hov⟩ := HD2.out.oo.sl
 change g.ov = .slice oa g.order.length oc at hov
 have Hov := Keep.mk hov
 clear hov
 have c3 : Keep (∀ wx, Below w2.heap.size w2 wx → (fun wx => True ∧ wx.rangeAt w.heap.size 0 (bytesA 32 v.id.f).toList ∧ wx.rangeAt w.heap.size 0 vv.toList) wx) := ⟨fun wx hb => ⟨trivial, vtx_rng (hvv.out ▸ HX2.out.below hb HX2.out.lt), blk_rng (HX2.out.below hb HX2.out.lt)⟩⟩
 have B2 : Keep (Below w2.heap.size w2 w2.drew) := ⟨(Below.refl _ _).drew⟩
 refine wp_region_held_drew (S := fun wx => True ∧ wx.rangeAt w.heap.size 0 (bytesA 32 v.id.f).toList ∧ wx.rangeAt w.heap.size 0 vv.toList) (by kernel_rfl) (c3.out _ B2.out) (fun hHeld => ?_)
 refine tkS (i := 0) (oi := ⟨some 13, Op.move (Operand.tmp 0), 133, _, _, none⟩) (v := .pointer (some ⟨d, 0, none⟩)) rfl (Or.inl ⟨by rfl, fun w hS => by obtain ⟨hS1, hS2, hS3⟩ := hS; go_simp⟩) hHeld ?_
 refine tkS (i := 1) (oi := ⟨some 14, Op.move (Operand.tmp 0), 133, _, _, none⟩) (v := .pointer (some ⟨d, 0, none⟩)) rfl (Or.inl ⟨by rfl, fun w hS => by obtain ⟨hS1, hS2, hS3⟩ := hS; go_simp⟩) hHeld ?_
 refine tkS (i := 2) (oi := ⟨some 15, Op.nilCheck (Operand.tmp 14), 0, _, _, none⟩) (v := .pointer (some ⟨d, 0, none⟩)) rfl (Or.inl ⟨by rfl, fun w hS => by obtain ⟨hS1, hS2, hS3⟩ := hS; go_simp⟩) hHeld ?_
 refine tkS (i := 3) (oi := ⟨some 16, Op.fieldAddr 152 (Operand.tmp 15) 3, 0, _, _, none⟩) (v := .pointer (some ⟨d, 3, none⟩)) rfl (Or.inl ⟨by rfl, fun w hS => by obtain ⟨hS1, hS2, hS3⟩ := hS; go_simp⟩) hHeld ?_
 refine tkS (i := 5) (oi := ⟨some 18, Op.move (Operand.tmp 0), 133, _, _, none⟩) (v := .pointer (some ⟨d, 0, none⟩)) rfl (Or.inl ⟨by rfl, fun w hS => by obtain ⟨hS1, hS2, hS3⟩ := hS; go_simp⟩) hHeld ?_
 refine tkS (i := 6) (oi := ⟨some 19, Op.load 139 (Operand.tmp 3), 139, _, _, none⟩) (v := .agg vv) rfl (yieldsIf_ld (by rfl) (Operand.tmp 3) 139 rfl w.heap.size 0 rfl vv _ Tryz.underlying139 rfl (by rw [hvv.out]; exact Tryz.info139s _ _ _) fun w hS => hS.2.2) hHeld ?_
 refine tkS (i := 8) (oi := ⟨some 21, Op.fieldAddr 139 (Operand.tmp 3) 0, 0, _, _, none⟩) (v := .pointer (some ⟨w.heap.size, 0, none⟩)) rfl (Or.inl ⟨by rfl, fun w hS => by obtain ⟨hS1, hS2, hS3⟩ := hS; go_simp⟩) hHeld ?_
 refine tkS (i := 9) (oi := ⟨some 22, Op.load 36 (Operand.tmp 21), 36, _, _, none⟩) (v := .agg (bytesA 32 v.id.f)) rfl (yieldsIf_ld (by rfl) (Operand.tmp 21) 36 rfl w.heap.size 0 rfl (bytesA 32 v.id.f) _ Tryz.underlying36 rfl (size36A _) fun w hS => hS.2.1) hHeld ?_
 refine wpAnyH_ready (rs := [4, 7, 10]) (by kernel_rfl) (by simp) ?_
 refine AllReadyH.cons (o := ⟨some 17, Op.load 24 (Operand.tmp 16), 24, _, _, none⟩) rfl (fun K hK => ?_) (AllReadyH.cons (o := ⟨some 20, Op.call { callee := Callee.value (Operand.func 126), args := #[Operand.tmp 18, Operand.tmp 19], argTypes := #[133, 139] }, 3, _, _, none⟩) rfl (fun K hK => ?_) (AllReadyH.cons (o := ⟨some 23, Op.buildSlice 24 1 #[(0, Operand.tmp 22)], 24, _, _, none⟩) rfl (fun K hK => ?_) AllReadyH.nil))
 rw [if_pos (by rfl)]
 have c_o : w2.drew.cell? ⟨d, 3, none⟩ = some (.slice oa g.order.length oc) := by have h := (HD2.out.blk.below B2.out HD2.out.blk.lt).c 3 (by rfl : (dgA { g with held := g.held ++ [v] })[3]? = some g.ov); rw [Hov.out] at h; exact h
 refine wp_val (.slice oa g.order.length oc) (by go_simp) ?_
 clear c_o
 refine hK _ _ (c3.out _ B2.out) fun hQ1 => ?_
 clear hK
 simp only [Act.put, pqA, pqB, pqC]
 refine wpAnyH_ready (rs := [7, 10]) (by kernel_rfl) (by simp) ?_
 refine AllReadyH.cons (o := ⟨some 20, Op.call { callee := Callee.value (Operand.func 126), args := #[Operand.tmp 18, Operand.tmp 19], argTypes := #[133, 139] }, 3, _, _, none⟩) rfl (fun K hK => ?_) (AllReadyH.cons (o := ⟨some 23, Op.buildSlice 24 1 #[(0, Operand.tmp 22)], 24, _, _, none⟩) rfl (fun K hK => ?_) AllReadyH.nil)
 rw [if_pos (by rfl)]
 refine wp_callF 126 _ _ rfl Tryz.in126 #[ptr d, .agg vv] (by simp [Act.eval]) (fun u wx => u = .int .i64 (at_ : Int) ∧ Below w2.drew.heap.size w2.drew wx) (by have h := HP.out w2.drew _ (.slice pa v.ps.length pc) _ (HD2.out.below B2.out) rfl (HR2.out.below B2.out); rw [← hvv.out] at h; exact h.mono fun e w' h => ⟨_, h.1, rfl, h.2⟩) ?_
 rintro _ wa2 ⟨rfl, hb_⟩
 have BA2 := Keep.mk (belowT B2.out hb_)
 refine hK _ _ (c3.out _ BA2.out) fun hQ2 => ?_
 clear hK hb_
 simp only [Act.put, pqA, pqB, pqC]
 refine wpAnyH_ready (rs := [10]) (by kernel_rfl) (by simp) ?_
 refine AllReadyH.cons (o := ⟨some 23, Op.buildSlice 24 1 #[(0, Operand.tmp 22)], 24, _, _, none⟩) rfl (fun K hK => ?_) AllReadyH.nil
 rw [if_pos (by rfl)]
 refine wp_bs 24 1 _ rfl #[(0, .agg (bytesA 32 v.id.f))] (by simp [Act.eval]) _ _ (bsH v.id _) ?_
 have HGx := Keep.mk (Blk.new wa2 36 (bytesA 32 v.id.f))
 have BA3 := Keep.mk (belowT BA2.out (below_new wa2 (.cells (bytesA 32 v.id.f) 36)))
 have Lgx : Keep (w2.heap.size ≤ wa2.heap.size) := ⟨BA2.out.size⟩
 generalize wa2.alloc (.cells (bytesA 32 v.id.f) 36) = wa3 at *
 generalize wa2.heap.size = gx at *
 refine hK _ _ (c3.out _ BA3.out) fun hQ3 => ?_
 clear hK
 simp only [Act.put, pqA, pqB, pqC]
 refine wpAnyH_ready (rs := [11]) (by kernel_rfl) (by simp) ?_
 refine AllReadyH.cons (o := ⟨some 24, Op.call { callee := Callee.value (Operand.func 125), args := #[Operand.tmp 17, Operand.tmp 20, Operand.tmp 23], argTypes := #[24, 3, 24] }, 24, _, _, none⟩) rfl (fun K hK => ?_) AllReadyH.nil
 rw [if_pos (by rfl)]
 refine wp_callF 125 _ _ rfl Tryz.in125 #[.slice oa g.order.length oc, .int .i64 (at_ : Int), .slice (some ⟨gx, 0, none⟩) 1 1] (by simp [Act.eval]) (fun u wx => NewL wa3 wx (.slice oa g.order.length oc) u o') ((HI1.out _ gx wa3 (Hov.out ▸ (HD2.out.below BA3.out).oo) HGx.out fun e => by have := (HD2.out.oo).lt gx (by show g.ov.ownBlock = _; rw [Hov.out]; exact e); have := Lgx.out; omega)) ?_
 rintro v3 w3 h3
 have HN := Keep.mk h3
 have HX3 := Keep.mk (h3.2.1.blk (HX2.out.below BA3.out HX2.out.lt) fun e => by have := (((HD2.out.below BA3.out).oo).typ (by show g.ov.ownBlock = _; rw [Hov.out]; exact e)).one (HX2.out.below BA3.out HX2.out.lt).typ; revert this; decide)
 have HB3 := Keep.mk (h3.2.1.blk (HD2.out.below BA3.out).blk fun e => by have := (((HD2.out.below BA3.out).oo).typ (by show g.ov.ownBlock = _; rw [Hov.out]; exact e)).one (HD2.out.below BA3.out).blk.typ; revert this; decide)
 refine hK _ _ ⟨trivial, vtx_rng (hvv.out ▸ HX3.out), blk_rng HX3.out⟩ fun hH5 => ?_
 obtain ⟨a3, c3', e3⟩ := h3.1.sl
 subst e3
 clear hK h3
 simp only [Act.put, pqA, pqB, pqC]
 refine tkS (i := 12) (oi := ⟨some 25, Op.nilCheck (Operand.tmp 13), 0, _, _, none⟩) (v := .pointer (some ⟨d, 0, none⟩)) rfl (Or.inl ⟨by rfl, fun w hS => by obtain ⟨hS1, hS2, hS3⟩ := hS; go_simp⟩) hH5 ?_
 refine tkS (i := 13) (oi := ⟨some 26, Op.fieldAddr 152 (Operand.tmp 25) 3, 0, _, _, none⟩) (v := .pointer (some ⟨d, 3, none⟩)) rfl (Or.inl ⟨by rfl, fun w hS => by obtain ⟨hS1, hS2, hS3⟩ := hS; go_simp⟩) hH5 ?_
 refine wpAnyH_ready (rs := [14]) (by kernel_rfl) (by simp) ?_
 refine AllReadyH.cons (o := ⟨none, Op.store 24 (Operand.tmp 26) (Operand.tmp 24), 0, _, _, none⟩) rfl (fun K hK => ?_) AllReadyH.nil
 rw [if_pos (by rfl)]
 have f_o := HB3.out.frozen 3
 have c_o : w3.cell? ⟨d, 3, none⟩ = some (.slice oa g.order.length oc) := by have h := HB3.out.c 3 (by rfl : (dgA { g with held := g.held ++ [v] })[3]? = some g.ov); rw [Hov.out] at h; exact h
 refine wp_cellS (w3.setCell ⟨d, 3, none⟩ (.slice a3 o'.length c3')) (by go_simp) ?_
 clear f_o c_o
 have HD4 := Keep.mk ((HD2.out.below BA3.out).setO HN.out.1 (by show Grown _ _ fun k => g.ov.ownBlock = some k; rw [Hov.out]; exact HN.out.2.1) (by show Moved _ g.ov _; rw [Hov.out]; exact HN.out.2.2))
 have HX4 := Keep.mk (HX3.out.set_ne (b' := d) (j := 3) (fun e => by subst e; have := HX3.out.typ.one HB3.out.typ; revert this; decide) (.slice a3 o'.length c3'))
 have G4 : Keep (Grown w (w3.setCell ⟨d, 3, none⟩ (.slice a3 o'.length c3')) (DgS d g)) := ⟨((G2.out.trans (Grown.below BA3.out)).next HN.out.2.1 fun i _ e => .inr (.inr (.inr (.inr (.inl (by rw [Hov.out]; exact e)))))).next (Grown.setCell w3 d 3 _ (S := fun k => k = d) fun _ => rfl) fun i _ e => .inl e⟩
 have GS4 : Keep (Grown w2 (w3.setCell ⟨d, 3, none⟩ (.slice a3 o'.length c3')) (fun k => g.ov.ownBlock = some k ∨ k = d)) := ⟨((Grown.below (S := fun k => g.ov.ownBlock = some k ∨ k = d) BA3.out).next HN.out.2.1 fun i _ e => .inl (by rw [Hov.out]; exact e)).next (Grown.setCell w3 d 3 _ (S := fun k => k = d) fun _ => rfl) fun i _ e => .inr e⟩
 have M4 : Keep (Moved w g.ov (.slice a3 o'.length c3')) := ⟨by rw [Hov.out]; exact HN.out.2.2.imp id fun ⟨q, e, h⟩ => ⟨q, e, Nat.le_trans G2.out.size (Nat.le_trans BA3.out.size h)⟩⟩
 generalize w3.setCell ⟨d, 3, none⟩ (.slice a3 o'.length c3') = w4 at *
 obtain ⟨v4, hv4⟩ : ∃ u : Value, u = .slice a3 o'.length c3' := ⟨_, rfl⟩
 rw [← hv4] at HD4 M4 ⊢
 refine hK _ _ ⟨trivial, vtx_rng (hvv.out ▸ HX4.out), blk_rng HX4.out⟩ fun hH6 => ?_
 clear hK hH5 hH6 HB3 HX3 HN c3 hv4
 simp only [Act.put, pqA, pqB, pqC]
 refine wpAnyH_done (by kernel_rfl) ?_ _
 rotate_left
 rw [if_pos (by rfl)]
 refine wp_bs 24 1 _ rfl #[(0, .agg (bytesA 32 v.id.f))] (by simp [Act.eval]) _ _ (bsH v.id _) ?_
 have HGx := Keep.mk (Blk.new w2.drew 36 (bytesA 32 v.id.f))
 have BA2 := Keep.mk (belowT B2.out (below_new w2.drew (.cells (bytesA 32 v.id.f) 36)))
 have Lgx : Keep (w2.heap.size ≤ w2.drew.heap.size) := ⟨B2.out.size⟩
 generalize w2.drew.alloc (.cells (bytesA 32 v.id.f) 36) = wa2 at *
 generalize w2.drew.heap.size = gx at *
 refine hK _ _ (c3.out _ BA2.out) fun hQ2 => ?_
 clear hK
 simp only [Act.put, pqA, pqB, pqC]
 refine wpAnyH_ready (rs := [7]) (by kernel_rfl) (by simp) ?_
 refine AllReadyH.cons (o := ⟨some 20, Op.call { callee := Callee.value (Operand.func 126), args := #[Operand.tmp 18, Operand.tmp 19], argTypes := #[133, 139] }, 3, _, _, none⟩) rfl (fun K hK => ?_) AllReadyH.nil
 rw [if_pos (by rfl)]
 refine wp_callF 126 _ _ rfl Tryz.in126 #[ptr d, .agg vv] (by simp [Act.eval]) (fun u wx => u = .int .i64 (at_ : Int) ∧ Below wa2.heap.size wa2 wx) (by have h := HP.out wa2 _ (.slice pa v.ps.length pc) _ (HD2.out.below BA2.out) rfl (HR2.out.below BA2.out); rw [← hvv.out] at h; exact h.mono fun e w' h => ⟨_, h.1, rfl, h.2⟩) ?_
 rintro _ wa3 ⟨rfl, hb_⟩
 have BA3 := Keep.mk (belowT BA2.out hb_)
 have HGx := Keep.mk (HGx.out.below hb_ HGx.out.lt)
 refine hK _ _ (c3.out _ BA3.out) fun hQ3 => ?_
 clear hK hb_
 simp only [Act.put, pqA, pqB, pqC]
 refine wpAnyH_ready (rs := [11]) (by kernel_rfl) (by simp) ?_
 refine AllReadyH.cons (o := ⟨some 24, Op.call { callee := Callee.value (Operand.func 125), args := #[Operand.tmp 17, Operand.tmp 20, Operand.tmp 23], argTypes := #[24, 3, 24] }, 24, _, _, none⟩) rfl (fun K hK => ?_) AllReadyH.nil
 rw [if_pos (by rfl)]
 refine wp_callF 125 _ _ rfl Tryz.in125 #[.slice oa g.order.length oc, .int .i64 (at_ : Int), .slice (some ⟨gx, 0, none⟩) 1 1] (by simp [Act.eval]) (fun u wx => NewL wa3 wx (.slice oa g.order.length oc) u o') ((HI1.out _ gx wa3 (Hov.out ▸ (HD2.out.below BA3.out).oo) HGx.out fun e => by have := (HD2.out.oo).lt gx (by show g.ov.ownBlock = _; rw [Hov.out]; exact e); have := Lgx.out; omega)) ?_
 rintro v3 w3 h3
 have HN := Keep.mk h3
 have HX3 := Keep.mk (h3.2.1.blk (HX2.out.below BA3.out HX2.out.lt) fun e => by have := (((HD2.out.below BA3.out).oo).typ (by show g.ov.ownBlock = _; rw [Hov.out]; exact e)).one (HX2.out.below BA3.out HX2.out.lt).typ; revert this; decide)
 have HB3 := Keep.mk (h3.2.1.blk (HD2.out.below BA3.out).blk fun e => by have := (((HD2.out.below BA3.out).oo).typ (by show g.ov.ownBlock = _; rw [Hov.out]; exact e)).one (HD2.out.below BA3.out).blk.typ; revert this; decide)
 refine hK _ _ ⟨trivial, vtx_rng (hvv.out ▸ HX3.out), blk_rng HX3.out⟩ fun hH5 => ?_
 obtain ⟨a3, c3', e3⟩ := h3.1.sl
 subst e3
 clear hK h3
 simp only [Act.put, pqA, pqB, pqC]
 refine tkS (i := 12) (oi := ⟨some 25, Op.nilCheck (Operand.tmp 13), 0, _, _, none⟩) (v := .pointer (some ⟨d, 0, none⟩)) rfl (Or.inl ⟨by rfl, fun w hS => by obtain ⟨hS1, hS2, hS3⟩ := hS; go_simp⟩) hH5 ?_
 refine tkS (i := 13) (oi := ⟨some 26, Op.fieldAddr 152 (Operand.tmp 25) 3, 0, _, _, none⟩) (v := .pointer (some ⟨d, 3, none⟩)) rfl (Or.inl ⟨by rfl, fun w hS => by obtain ⟨hS1, hS2, hS3⟩ := hS; go_simp⟩) hH5 ?_
 refine wpAnyH_ready (rs := [14]) (by kernel_rfl) (by simp) ?_
 refine AllReadyH.cons (o := ⟨none, Op.store 24 (Operand.tmp 26) (Operand.tmp 24), 0, _, _, none⟩) rfl (fun K hK => ?_) AllReadyH.nil
 rw [if_pos (by rfl)]
 have f_o := HB3.out.frozen 3
 have c_o : w3.cell? ⟨d, 3, none⟩ = some (.slice oa g.order.length oc) := by have h := HB3.out.c 3 (by rfl : (dgA { g with held := g.held ++ [v] })[3]? = some g.ov); rw [Hov.out] at h; exact h
 refine wp_cellS (w3.setCell ⟨d, 3, none⟩ (.slice a3 o'.length c3')) (by go_simp) ?_
 clear f_o c_o
 have HD4 := Keep.mk ((HD2.out.below BA3.out).setO HN.out.1 (by show Grown _ _ fun k => g.ov.ownBlock = some k; rw [Hov.out]; exact HN.out.2.1) (by show Moved _ g.ov _; rw [Hov.out]; exact HN.out.2.2))
 have HX4 := Keep.mk (HX3.out.set_ne (b' := d) (j := 3) (fun e => by subst e; have := HX3.out.typ.one HB3.out.typ; revert this; decide) (.slice a3 o'.length c3'))
 have G4 : Keep (Grown w (w3.setCell ⟨d, 3, none⟩ (.slice a3 o'.length c3')) (DgS d g)) := ⟨((G2.out.trans (Grown.below BA3.out)).next HN.out.2.1 fun i _ e => .inr (.inr (.inr (.inr (.inl (by rw [Hov.out]; exact e)))))).next (Grown.setCell w3 d 3 _ (S := fun k => k = d) fun _ => rfl) fun i _ e => .inl e⟩
 have GS4 : Keep (Grown w2 (w3.setCell ⟨d, 3, none⟩ (.slice a3 o'.length c3')) (fun k => g.ov.ownBlock = some k ∨ k = d)) := ⟨((Grown.below (S := fun k => g.ov.ownBlock = some k ∨ k = d) BA3.out).next HN.out.2.1 fun i _ e => .inl (by rw [Hov.out]; exact e)).next (Grown.setCell w3 d 3 _ (S := fun k => k = d) fun _ => rfl) fun i _ e => .inr e⟩
 have M4 : Keep (Moved w g.ov (.slice a3 o'.length c3')) := ⟨by rw [Hov.out]; exact HN.out.2.2.imp id fun ⟨q, e, h⟩ => ⟨q, e, Nat.le_trans G2.out.size (Nat.le_trans BA3.out.size h)⟩⟩
 generalize w3.setCell ⟨d, 3, none⟩ (.slice a3 o'.length c3') = w4 at *
 obtain ⟨v4, hv4⟩ : ∃ u : Value, u = .slice a3 o'.length c3' := ⟨_, rfl⟩
 rw [← hv4] at HD4 M4 ⊢
 refine hK _ _ ⟨trivial, vtx_rng (hvv.out ▸ HX4.out), blk_rng HX4.out⟩ fun hH6 => ?_
 clear hK hH5 hH6 HB3 HX3 HN c3 hv4
 simp only [Act.put, pqA, pqB, pqC]
 refine wpAnyH_done (by kernel_rfl) ?_ _
 rotate_left
 rw [if_pos (by rfl)]
 refine wp_callF 126 _ _ rfl Tryz.in126 #[ptr d, .agg vv] (by simp [Act.eval]) (fun u wx => u = .int .i64 (at_ : Int) ∧ Below w2.drew.heap.size w2.drew wx) (by have h := HP.out w2.drew _ (.slice pa v.ps.length pc) _ (HD2.out.below B2.out) rfl (HR2.out.below B2.out); rw [← hvv.out] at h; exact h.mono fun e w' h => ⟨_, h.1, rfl, h.2⟩) ?_
 rintro _ wa1 ⟨rfl, hb_⟩
 have BA1 := Keep.mk (belowT B2.out hb_)
 refine hK _ _ (c3.out _ BA1.out) fun hQ1 => ?_
 clear hK hb_
 simp only [Act.put, pqA, pqB, pqC]
 refine wpAnyH_ready (rs := [4, 10]) (by kernel_rfl) (by simp) ?_
 refine AllReadyH.cons (o := ⟨some 17, Op.load 24 (Operand.tmp 16), 24, _, _, none⟩) rfl (fun K hK => ?_) (AllReadyH.cons (o := ⟨some 23, Op.buildSlice 24 1 #[(0, Operand.tmp 22)], 24, _, _, none⟩) rfl (fun K hK => ?_) AllReadyH.nil)
 rw [if_pos (by rfl)]
 have c_o : wa1.cell? ⟨d, 3, none⟩ = some (.slice oa g.order.length oc) := by have h := (HD2.out.blk.below BA1.out HD2.out.blk.lt).c 3 (by rfl : (dgA { g with held := g.held ++ [v] })[3]? = some g.ov); rw [Hov.out] at h; exact h
 refine wp_val (.slice oa g.order.length oc) (by go_simp) ?_
 clear c_o
 refine hK _ _ (c3.out _ BA1.out) fun hQ2 => ?_
 clear hK
 simp only [Act.put, pqA, pqB, pqC]
 refine wpAnyH_ready (rs := [10]) (by kernel_rfl) (by simp) ?_
 refine AllReadyH.cons (o := ⟨some 23, Op.buildSlice 24 1 #[(0, Operand.tmp 22)], 24, _, _, none⟩) rfl (fun K hK => ?_) AllReadyH.nil
 rw [if_pos (by rfl)]
 refine wp_bs 24 1 _ rfl #[(0, .agg (bytesA 32 v.id.f))] (by simp [Act.eval]) _ _ (bsH v.id _) ?_
 have HGx := Keep.mk (Blk.new wa1 36 (bytesA 32 v.id.f))
 have BA3 := Keep.mk (belowT BA1.out (below_new wa1 (.cells (bytesA 32 v.id.f) 36)))
 have Lgx : Keep (w2.heap.size ≤ wa1.heap.size) := ⟨BA1.out.size⟩
 generalize wa1.alloc (.cells (bytesA 32 v.id.f) 36) = wa3 at *
 generalize wa1.heap.size = gx at *
 refine hK _ _ (c3.out _ BA3.out) fun hQ3 => ?_
 clear hK
 simp only [Act.put, pqA, pqB, pqC]
 refine wpAnyH_ready (rs := [11]) (by kernel_rfl) (by simp) ?_
 refine AllReadyH.cons (o := ⟨some 24, Op.call { callee := Callee.value (Operand.func 125), args := #[Operand.tmp 17, Operand.tmp 20, Operand.tmp 23], argTypes := #[24, 3, 24] }, 24, _, _, none⟩) rfl (fun K hK => ?_) AllReadyH.nil
 rw [if_pos (by rfl)]
 refine wp_callF 125 _ _ rfl Tryz.in125 #[.slice oa g.order.length oc, .int .i64 (at_ : Int), .slice (some ⟨gx, 0, none⟩) 1 1] (by simp [Act.eval]) (fun u wx => NewL wa3 wx (.slice oa g.order.length oc) u o') ((HI1.out _ gx wa3 (Hov.out ▸ (HD2.out.below BA3.out).oo) HGx.out fun e => by have := (HD2.out.oo).lt gx (by show g.ov.ownBlock = _; rw [Hov.out]; exact e); have := Lgx.out; omega)) ?_
 rintro v3 w3 h3
 have HN := Keep.mk h3
 have HX3 := Keep.mk (h3.2.1.blk (HX2.out.below BA3.out HX2.out.lt) fun e => by have := (((HD2.out.below BA3.out).oo).typ (by show g.ov.ownBlock = _; rw [Hov.out]; exact e)).one (HX2.out.below BA3.out HX2.out.lt).typ; revert this; decide)
 have HB3 := Keep.mk (h3.2.1.blk (HD2.out.below BA3.out).blk fun e => by have := (((HD2.out.below BA3.out).oo).typ (by show g.ov.ownBlock = _; rw [Hov.out]; exact e)).one (HD2.out.below BA3.out).blk.typ; revert this; decide)
 refine hK _ _ ⟨trivial, vtx_rng (hvv.out ▸ HX3.out), blk_rng HX3.out⟩ fun hH5 => ?_
 obtain ⟨a3, c3', e3⟩ := h3.1.sl
 subst e3
 clear hK h3
 simp only [Act.put, pqA, pqB, pqC]
 refine tkS (i := 12) (oi := ⟨some 25, Op.nilCheck (Operand.tmp 13), 0, _, _, none⟩) (v := .pointer (some ⟨d, 0, none⟩)) rfl (Or.inl ⟨by rfl, fun w hS => by obtain ⟨hS1, hS2, hS3⟩ := hS; go_simp⟩) hH5 ?_
 refine tkS (i := 13) (oi := ⟨some 26, Op.fieldAddr 152 (Operand.tmp 25) 3, 0, _, _, none⟩) (v := .pointer (some ⟨d, 3, none⟩)) rfl (Or.inl ⟨by rfl, fun w hS => by obtain ⟨hS1, hS2, hS3⟩ := hS; go_simp⟩) hH5 ?_
 refine wpAnyH_ready (rs := [14]) (by kernel_rfl) (by simp) ?_
 refine AllReadyH.cons (o := ⟨none, Op.store 24 (Operand.tmp 26) (Operand.tmp 24), 0, _, _, none⟩) rfl (fun K hK => ?_) AllReadyH.nil
 rw [if_pos (by rfl)]
 have f_o := HB3.out.frozen 3
 have c_o : w3.cell? ⟨d, 3, none⟩ = some (.slice oa g.order.length oc) := by have h := HB3.out.c 3 (by rfl : (dgA { g with held := g.held ++ [v] })[3]? = some g.ov); rw [Hov.out] at h; exact h
 refine wp_cellS (w3.setCell ⟨d, 3, none⟩ (.slice a3 o'.length c3')) (by go_simp) ?_
 clear f_o c_o
 have HD4 := Keep.mk ((HD2.out.below BA3.out).setO HN.out.1 (by show Grown _ _ fun k => g.ov.ownBlock = some k; rw [Hov.out]; exact HN.out.2.1) (by show Moved _ g.ov _; rw [Hov.out]; exact HN.out.2.2))
 have HX4 := Keep.mk (HX3.out.set_ne (b' := d) (j := 3) (fun e => by subst e; have := HX3.out.typ.one HB3.out.typ; revert this; decide) (.slice a3 o'.length c3'))
 have G4 : Keep (Grown w (w3.setCell ⟨d, 3, none⟩ (.slice a3 o'.length c3')) (DgS d g)) := ⟨((G2.out.trans (Grown.below BA3.out)).next HN.out.2.1 fun i _ e => .inr (.inr (.inr (.inr (.inl (by rw [Hov.out]; exact e)))))).next (Grown.setCell w3 d 3 _ (S := fun k => k = d) fun _ => rfl) fun i _ e => .inl e⟩
 have GS4 : Keep (Grown w2 (w3.setCell ⟨d, 3, none⟩ (.slice a3 o'.length c3')) (fun k => g.ov.ownBlock = some k ∨ k = d)) := ⟨((Grown.below (S := fun k => g.ov.ownBlock = some k ∨ k = d) BA3.out).next HN.out.2.1 fun i _ e => .inl (by rw [Hov.out]; exact e)).next (Grown.setCell w3 d 3 _ (S := fun k => k = d) fun _ => rfl) fun i _ e => .inr e⟩
 have M4 : Keep (Moved w g.ov (.slice a3 o'.length c3')) := ⟨by rw [Hov.out]; exact HN.out.2.2.imp id fun ⟨q, e, h⟩ => ⟨q, e, Nat.le_trans G2.out.size (Nat.le_trans BA3.out.size h)⟩⟩
 generalize w3.setCell ⟨d, 3, none⟩ (.slice a3 o'.length c3') = w4 at *
 obtain ⟨v4, hv4⟩ : ∃ u : Value, u = .slice a3 o'.length c3' := ⟨_, rfl⟩
 rw [← hv4] at HD4 M4 ⊢
 refine hK _ _ ⟨trivial, vtx_rng (hvv.out ▸ HX4.out), blk_rng HX4.out⟩ fun hH6 => ?_
 clear hK hH5 hH6 HB3 HX3 HN c3 hv4
 simp only [Act.put, pqA, pqB, pqC]
 refine wpAnyH_done (by kernel_rfl) ?_ _
 rotate_left
 rw [if_pos (by rfl)]
 refine wp_bs 24 1 _ rfl #[(0, .agg (bytesA 32 v.id.f))] (by simp [Act.eval]) _ _ (bsH v.id _) ?_
 have HGx := Keep.mk (Blk.new wa1 36 (bytesA 32 v.id.f))
 have BA2 := Keep.mk (belowT BA1.out (below_new wa1 (.cells (bytesA 32 v.id.f) 36)))
 have Lgx : Keep (w2.heap.size ≤ wa1.heap.size) := ⟨BA1.out.size⟩
 generalize wa1.alloc (.cells (bytesA 32 v.id.f) 36) = wa2 at *
 generalize wa1.heap.size = gx at *
 refine hK _ _ (c3.out _ BA2.out) fun hQ2 => ?_
 clear hK
 simp only [Act.put, pqA, pqB, pqC]
 refine wpAnyH_ready (rs := [4]) (by kernel_rfl) (by simp) ?_
 refine AllReadyH.cons (o := ⟨some 17, Op.load 24 (Operand.tmp 16), 24, _, _, none⟩) rfl (fun K hK => ?_) AllReadyH.nil
 rw [if_pos (by rfl)]
 have c_o : wa2.cell? ⟨d, 3, none⟩ = some (.slice oa g.order.length oc) := by have h := (HD2.out.blk.below BA2.out HD2.out.blk.lt).c 3 (by rfl : (dgA { g with held := g.held ++ [v] })[3]? = some g.ov); rw [Hov.out] at h; exact h
 refine wp_val (.slice oa g.order.length oc) (by go_simp) ?_
 clear c_o
 refine hK _ _ (c3.out _ BA2.out) fun hQ3 => ?_
 clear hK
 simp only [Act.put, pqA, pqB, pqC]
 refine wpAnyH_ready (rs := [11]) (by kernel_rfl) (by simp) ?_
 refine AllReadyH.cons (o := ⟨some 24, Op.call { callee := Callee.value (Operand.func 125), args := #[Operand.tmp 17, Operand.tmp 20, Operand.tmp 23], argTypes := #[24, 3, 24] }, 24, _, _, none⟩) rfl (fun K hK => ?_) AllReadyH.nil
 rw [if_pos (by rfl)]
 refine wp_callF 125 _ _ rfl Tryz.in125 #[.slice oa g.order.length oc, .int .i64 (at_ : Int), .slice (some ⟨gx, 0, none⟩) 1 1] (by simp [Act.eval]) (fun u wx => NewL wa2 wx (.slice oa g.order.length oc) u o') ((HI1.out _ gx wa2 (Hov.out ▸ (HD2.out.below BA2.out).oo) HGx.out fun e => by have := (HD2.out.oo).lt gx (by show g.ov.ownBlock = _; rw [Hov.out]; exact e); have := Lgx.out; omega)) ?_
 rintro v3 w3 h3
 have HN := Keep.mk h3
 have HX3 := Keep.mk (h3.2.1.blk (HX2.out.below BA2.out HX2.out.lt) fun e => by have := (((HD2.out.below BA2.out).oo).typ (by show g.ov.ownBlock = _; rw [Hov.out]; exact e)).one (HX2.out.below BA2.out HX2.out.lt).typ; revert this; decide)
 have HB3 := Keep.mk (h3.2.1.blk (HD2.out.below BA2.out).blk fun e => by have := (((HD2.out.below BA2.out).oo).typ (by show g.ov.ownBlock = _; rw [Hov.out]; exact e)).one (HD2.out.below BA2.out).blk.typ; revert this; decide)
 refine hK _ _ ⟨trivial, vtx_rng (hvv.out ▸ HX3.out), blk_rng HX3.out⟩ fun hH5 => ?_
 obtain ⟨a3, c3', e3⟩ := h3.1.sl
 subst e3
 clear hK h3
 simp only [Act.put, pqA, pqB, pqC]
 refine tkS (i := 12) (oi := ⟨some 25, Op.nilCheck (Operand.tmp 13), 0, _, _, none⟩) (v := .pointer (some ⟨d, 0, none⟩)) rfl (Or.inl ⟨by rfl, fun w hS => by obtain ⟨hS1, hS2, hS3⟩ := hS; go_simp⟩) hH5 ?_
 refine tkS (i := 13) (oi := ⟨some 26, Op.fieldAddr 152 (Operand.tmp 25) 3, 0, _, _, none⟩) (v := .pointer (some ⟨d, 3, none⟩)) rfl (Or.inl ⟨by rfl, fun w hS => by obtain ⟨hS1, hS2, hS3⟩ := hS; go_simp⟩) hH5 ?_
 refine wpAnyH_ready (rs := [14]) (by kernel_rfl) (by simp) ?_
 refine AllReadyH.cons (o := ⟨none, Op.store 24 (Operand.tmp 26) (Operand.tmp 24), 0, _, _, none⟩) rfl (fun K hK => ?_) AllReadyH.nil
 rw [if_pos (by rfl)]
 have f_o := HB3.out.frozen 3
 have c_o : w3.cell? ⟨d, 3, none⟩ = some (.slice oa g.order.length oc) := by have h := HB3.out.c 3 (by rfl : (dgA { g with held := g.held ++ [v] })[3]? = some g.ov); rw [Hov.out] at h; exact h
 refine wp_cellS (w3.setCell ⟨d, 3, none⟩ (.slice a3 o'.length c3')) (by go_simp) ?_
 clear f_o c_o
 have HD4 := Keep.mk ((HD2.out.below BA2.out).setO HN.out.1 (by show Grown _ _ fun k => g.ov.ownBlock = some k; rw [Hov.out]; exact HN.out.2.1) (by show Moved _ g.ov _; rw [Hov.out]; exact HN.out.2.2))
 have HX4 := Keep.mk (HX3.out.set_ne (b' := d) (j := 3) (fun e => by subst e; have := HX3.out.typ.one HB3.out.typ; revert this; decide) (.slice a3 o'.length c3'))
 have G4 : Keep (Grown w (w3.setCell ⟨d, 3, none⟩ (.slice a3 o'.length c3')) (DgS d g)) := ⟨((G2.out.trans (Grown.below BA2.out)).next HN.out.2.1 fun i _ e => .inr (.inr (.inr (.inr (.inl (by rw [Hov.out]; exact e)))))).next (Grown.setCell w3 d 3 _ (S := fun k => k = d) fun _ => rfl) fun i _ e => .inl e⟩
 have GS4 : Keep (Grown w2 (w3.setCell ⟨d, 3, none⟩ (.slice a3 o'.length c3')) (fun k => g.ov.ownBlock = some k ∨ k = d)) := ⟨((Grown.below (S := fun k => g.ov.ownBlock = some k ∨ k = d) BA2.out).next HN.out.2.1 fun i _ e => .inl (by rw [Hov.out]; exact e)).next (Grown.setCell w3 d 3 _ (S := fun k => k = d) fun _ => rfl) fun i _ e => .inr e⟩
 have M4 : Keep (Moved w g.ov (.slice a3 o'.length c3')) := ⟨by rw [Hov.out]; exact HN.out.2.2.imp id fun ⟨q, e, h⟩ => ⟨q, e, Nat.le_trans G2.out.size (Nat.le_trans BA2.out.size h)⟩⟩
 generalize w3.setCell ⟨d, 3, none⟩ (.slice a3 o'.length c3') = w4 at *
 obtain ⟨v4, hv4⟩ : ∃ u : Value, u = .slice a3 o'.length c3' := ⟨_, rfl⟩
 rw [← hv4] at HD4 M4 ⊢
 refine hK _ _ ⟨trivial, vtx_rng (hvv.out ▸ HX4.out), blk_rng HX4.out⟩ fun hH6 => ?_
 clear hK hH5 hH6 HB3 HX3 HN c3 hv4
 simp only [Act.put, pqA, pqB, pqC]
 refine wpAnyH_done (by kernel_rfl) ?_ _
 rotate_left
 rw [if_pos (by rfl)]
 refine wp_bs 24 1 _ rfl #[(0, .agg (bytesA 32 v.id.f))] (by simp [Act.eval]) _ _ (bsH v.id _) ?_
 have HGx := Keep.mk (Blk.new w2.drew 36 (bytesA 32 v.id.f))
 have BA1 := Keep.mk (belowT B2.out (below_new w2.drew (.cells (bytesA 32 v.id.f) 36)))
 have Lgx : Keep (w2.heap.size ≤ w2.drew.heap.size) := ⟨B2.out.size⟩
 generalize w2.drew.alloc (.cells (bytesA 32 v.id.f) 36) = wa1 at *
 generalize w2.drew.heap.size = gx at *
 refine hK _ _ (c3.out _ BA1.out) fun hQ1 => ?_
 clear hK
 simp only [Act.put, pqA, pqB, pqC]
 refine wpAnyH_ready (rs := [4, 7]) (by kernel_rfl) (by simp) ?_
 refine AllReadyH.cons (o := ⟨some 17, Op.load 24 (Operand.tmp 16), 24, _, _, none⟩) rfl (fun K hK => ?_) (AllReadyH.cons (o := ⟨some 20, Op.call { callee := Callee.value (Operand.func 126), args := #[Operand.tmp 18, Operand.tmp 19], argTypes := #[133, 139] }, 3, _, _, none⟩) rfl (fun K hK => ?_) AllReadyH.nil)
 rw [if_pos (by rfl)]
 have c_o : wa1.cell? ⟨d, 3, none⟩ = some (.slice oa g.order.length oc) := by have h := (HD2.out.blk.below BA1.out HD2.out.blk.lt).c 3 (by rfl : (dgA { g with held := g.held ++ [v] })[3]? = some g.ov); rw [Hov.out] at h; exact h
 refine wp_val (.slice oa g.order.length oc) (by go_simp) ?_
 clear c_o
 refine hK _ _ (c3.out _ BA1.out) fun hQ2 => ?_
 clear hK
 simp only [Act.put, pqA, pqB, pqC]
 refine wpAnyH_ready (rs := [7]) (by kernel_rfl) (by simp) ?_
 refine AllReadyH.cons (o := ⟨some 20, Op.call { callee := Callee.value (Operand.func 126), args := #[Operand.tmp 18, Operand.tmp 19], argTypes := #[133, 139] }, 3, _, _, none⟩) rfl (fun K hK => ?_) AllReadyH.nil
 rw [if_pos (by rfl)]
 refine wp_callF 126 _ _ rfl Tryz.in126 #[ptr d, .agg vv] (by simp [Act.eval]) (fun u wx => u = .int .i64 (at_ : Int) ∧ Below wa1.heap.size wa1 wx) (by have h := HP.out wa1 _ (.slice pa v.ps.length pc) _ (HD2.out.below BA1.out) rfl (HR2.out.below BA1.out); rw [← hvv.out] at h; exact h.mono fun e w' h => ⟨_, h.1, rfl, h.2⟩) ?_
 rintro _ wa3 ⟨rfl, hb_⟩
 have BA3 := Keep.mk (belowT BA1.out hb_)
 have HGx := Keep.mk (HGx.out.below hb_ HGx.out.lt)
 refine hK _ _ (c3.out _ BA3.out) fun hQ3 => ?_
 clear hK hb_
 simp only [Act.put, pqA, pqB, pqC]
 refine wpAnyH_ready (rs := [11]) (by kernel_rfl) (by simp) ?_
 refine AllReadyH.cons (o := ⟨some 24, Op.call { callee := Callee.value (Operand.func 125), args := #[Operand.tmp 17, Operand.tmp 20, Operand.tmp 23], argTypes := #[24, 3, 24] }, 24, _, _, none⟩) rfl (fun K hK => ?_) AllReadyH.nil
 rw [if_pos (by rfl)]
 refine wp_callF 125 _ _ rfl Tryz.in125 #[.slice oa g.order.length oc, .int .i64 (at_ : Int), .slice (some ⟨gx, 0, none⟩) 1 1] (by simp [Act.eval]) (fun u wx => NewL wa3 wx (.slice oa g.order.length oc) u o') ((HI1.out _ gx wa3 (Hov.out ▸ (HD2.out.below BA3.out).oo) HGx.out fun e => by have := (HD2.out.oo).lt gx (by show g.ov.ownBlock = _; rw [Hov.out]; exact e); have := Lgx.out; omega)) ?_
 rintro v3 w3 h3
 have HN := Keep.mk h3
 have HX3 := Keep.mk (h3.2.1.blk (HX2.out.below BA3.out HX2.out.lt) fun e => by have := (((HD2.out.below BA3.out).oo).typ (by show g.ov.ownBlock = _; rw [Hov.out]; exact e)).one (HX2.out.below BA3.out HX2.out.lt).typ; revert this; decide)
 have HB3 := Keep.mk (h3.2.1.blk (HD2.out.below BA3.out).blk fun e => by have := (((HD2.out.below BA3.out).oo).typ (by show g.ov.ownBlock = _; rw [Hov.out]; exact e)).one (HD2.out.below BA3.out).blk.typ; revert this; decide)
 refine hK _ _ ⟨trivial, vtx_rng (hvv.out ▸ HX3.out), blk_rng HX3.out⟩ fun hH5 => ?_
 obtain ⟨a3, c3', e3⟩ := h3.1.sl
 subst e3
 clear hK h3
 simp only [Act.put, pqA, pqB, pqC]
 refine tkS (i := 12) (oi := ⟨some 25, Op.nilCheck (Operand.tmp 13), 0, _, _, none⟩) (v := .pointer (some ⟨d, 0, none⟩)) rfl (Or.inl ⟨by rfl, fun w hS => by obtain ⟨hS1, hS2, hS3⟩ := hS; go_simp⟩) hH5 ?_
 refine tkS (i := 13) (oi := ⟨some 26, Op.fieldAddr 152 (Operand.tmp 25) 3, 0, _, _, none⟩) (v := .pointer (some ⟨d, 3, none⟩)) rfl (Or.inl ⟨by rfl, fun w hS => by obtain ⟨hS1, hS2, hS3⟩ := hS; go_simp⟩) hH5 ?_
 refine wpAnyH_ready (rs := [14]) (by kernel_rfl) (by simp) ?_
 refine AllReadyH.cons (o := ⟨none, Op.store 24 (Operand.tmp 26) (Operand.tmp 24), 0, _, _, none⟩) rfl (fun K hK => ?_) AllReadyH.nil
 rw [if_pos (by rfl)]
 have f_o := HB3.out.frozen 3
 have c_o : w3.cell? ⟨d, 3, none⟩ = some (.slice oa g.order.length oc) := by have h := HB3.out.c 3 (by rfl : (dgA { g with held := g.held ++ [v] })[3]? = some g.ov); rw [Hov.out] at h; exact h
 refine wp_cellS (w3.setCell ⟨d, 3, none⟩ (.slice a3 o'.length c3')) (by go_simp) ?_
 clear f_o c_o
 have HD4 := Keep.mk ((HD2.out.below BA3.out).setO HN.out.1 (by show Grown _ _ fun k => g.ov.ownBlock = some k; rw [Hov.out]; exact HN.out.2.1) (by show Moved _ g.ov _; rw [Hov.out]; exact HN.out.2.2))
 have HX4 := Keep.mk (HX3.out.set_ne (b' := d) (j := 3) (fun e => by subst e; have := HX3.out.typ.one HB3.out.typ; revert this; decide) (.slice a3 o'.length c3'))
 have G4 : Keep (Grown w (w3.setCell ⟨d, 3, none⟩ (.slice a3 o'.length c3')) (DgS d g)) := ⟨((G2.out.trans (Grown.below BA3.out)).next HN.out.2.1 fun i _ e => .inr (.inr (.inr (.inr (.inl (by rw [Hov.out]; exact e)))))).next (Grown.setCell w3 d 3 _ (S := fun k => k = d) fun _ => rfl) fun i _ e => .inl e⟩
 have GS4 : Keep (Grown w2 (w3.setCell ⟨d, 3, none⟩ (.slice a3 o'.length c3')) (fun k => g.ov.ownBlock = some k ∨ k = d)) := ⟨((Grown.below (S := fun k => g.ov.ownBlock = some k ∨ k = d) BA3.out).next HN.out.2.1 fun i _ e => .inl (by rw [Hov.out]; exact e)).next (Grown.setCell w3 d 3 _ (S := fun k => k = d) fun _ => rfl) fun i _ e => .inr e⟩
 have M4 : Keep (Moved w g.ov (.slice a3 o'.length c3')) := ⟨by rw [Hov.out]; exact HN.out.2.2.imp id fun ⟨q, e, h⟩ => ⟨q, e, Nat.le_trans G2.out.size (Nat.le_trans BA3.out.size h)⟩⟩
 generalize w3.setCell ⟨d, 3, none⟩ (.slice a3 o'.length c3') = w4 at *
 obtain ⟨v4, hv4⟩ : ∃ u : Value, u = .slice a3 o'.length c3' := ⟨_, rfl⟩
 rw [← hv4] at HD4 M4 ⊢
 refine hK _ _ ⟨trivial, vtx_rng (hvv.out ▸ HX4.out), blk_rng HX4.out⟩ fun hH6 => ?_
 clear hK hH5 hH6 HB3 HX3 HN c3 hv4
 simp only [Act.put, pqA, pqB, pqC]
 refine wpAnyH_done (by kernel_rfl) ?_ _
 rotate_left
 rw [if_pos (by rfl)]
 refine wp_callF 126 _ _ rfl Tryz.in126 #[ptr d, .agg vv] (by simp [Act.eval]) (fun u wx => u = .int .i64 (at_ : Int) ∧ Below wa1.heap.size wa1 wx) (by have h := HP.out wa1 _ (.slice pa v.ps.length pc) _ (HD2.out.below BA1.out) rfl (HR2.out.below BA1.out); rw [← hvv.out] at h; exact h.mono fun e w' h => ⟨_, h.1, rfl, h.2⟩) ?_
 rintro _ wa2 ⟨rfl, hb_⟩
 have BA2 := Keep.mk (belowT BA1.out hb_)
 have HGx := Keep.mk (HGx.out.below hb_ HGx.out.lt)
 refine hK _ _ (c3.out _ BA2.out) fun hQ2 => ?_
 clear hK hb_
 simp only [Act.put, pqA, pqB, pqC]
 refine wpAnyH_ready (rs := [4]) (by kernel_rfl) (by simp) ?_
 refine AllReadyH.cons (o := ⟨some 17, Op.load 24 (Operand.tmp 16), 24, _, _, none⟩) rfl (fun K hK => ?_) AllReadyH.nil
 rw [if_pos (by rfl)]
 have c_o : wa2.cell? ⟨d, 3, none⟩ = some (.slice oa g.order.length oc) := by have h := (HD2.out.blk.below BA2.out HD2.out.blk.lt).c 3 (by rfl : (dgA { g with held := g.held ++ [v] })[3]? = some g.ov); rw [Hov.out] at h; exact h
 refine wp_val (.slice oa g.order.length oc) (by go_simp) ?_
 clear c_o
 refine hK _ _ (c3.out _ BA2.out) fun hQ3 => ?_
 clear hK
 simp only [Act.put, pqA, pqB, pqC]
 refine wpAnyH_ready (rs := [11]) (by kernel_rfl) (by simp) ?_
 refine AllReadyH.cons (o := ⟨some 24, Op.call { callee := Callee.value (Operand.func 125), args := #[Operand.tmp 17, Operand.tmp 20, Operand.tmp 23], argTypes := #[24, 3, 24] }, 24, _, _, none⟩) rfl (fun K hK => ?_) AllReadyH.nil
 rw [if_pos (by rfl)]
 refine wp_callF 125 _ _ rfl Tryz.in125 #[.slice oa g.order.length oc, .int .i64 (at_ : Int), .slice (some ⟨gx, 0, none⟩) 1 1] (by simp [Act.eval]) (fun u wx => NewL wa2 wx (.slice oa g.order.length oc) u o') ((HI1.out _ gx wa2 (Hov.out ▸ (HD2.out.below BA2.out).oo) HGx.out fun e => by have := (HD2.out.oo).lt gx (by show g.ov.ownBlock = _; rw [Hov.out]; exact e); have := Lgx.out; omega)) ?_
 rintro v3 w3 h3
 have HN := Keep.mk h3
 have HX3 := Keep.mk (h3.2.1.blk (HX2.out.below BA2.out HX2.out.lt) fun e => by have := (((HD2.out.below BA2.out).oo).typ (by show g.ov.ownBlock = _; rw [Hov.out]; exact e)).one (HX2.out.below BA2.out HX2.out.lt).typ; revert this; decide)
 have HB3 := Keep.mk (h3.2.1.blk (HD2.out.below BA2.out).blk fun e => by have := (((HD2.out.below BA2.out).oo).typ (by show g.ov.ownBlock = _; rw [Hov.out]; exact e)).one (HD2.out.below BA2.out).blk.typ; revert this; decide)
 refine hK _ _ ⟨trivial, vtx_rng (hvv.out ▸ HX3.out), blk_rng HX3.out⟩ fun hH5 => ?_
 obtain ⟨a3, c3', e3⟩ := h3.1.sl
 subst e3
 clear hK h3
 simp only [Act.put, pqA, pqB, pqC]
 refine tkS (i := 12) (oi := ⟨some 25, Op.nilCheck (Operand.tmp 13), 0, _, _, none⟩) (v := .pointer (some ⟨d, 0, none⟩)) rfl (Or.inl ⟨by rfl, fun w hS => by obtain ⟨hS1, hS2, hS3⟩ := hS; go_simp⟩) hH5 ?_
 refine tkS (i := 13) (oi := ⟨some 26, Op.fieldAddr 152 (Operand.tmp 25) 3, 0, _, _, none⟩) (v := .pointer (some ⟨d, 3, none⟩)) rfl (Or.inl ⟨by rfl, fun w hS => by obtain ⟨hS1, hS2, hS3⟩ := hS; go_simp⟩) hH5 ?_
 refine wpAnyH_ready (rs := [14]) (by kernel_rfl) (by simp) ?_
 refine AllReadyH.cons (o := ⟨none, Op.store 24 (Operand.tmp 26) (Operand.tmp 24), 0, _, _, none⟩) rfl (fun K hK => ?_) AllReadyH.nil
 rw [if_pos (by rfl)]
 have f_o := HB3.out.frozen 3
 have c_o : w3.cell? ⟨d, 3, none⟩ = some (.slice oa g.order.length oc) := by have h := HB3.out.c 3 (by rfl : (dgA { g with held := g.held ++ [v] })[3]? = some g.ov); rw [Hov.out] at h; exact h
 refine wp_cellS (w3.setCell ⟨d, 3, none⟩ (.slice a3 o'.length c3')) (by go_simp) ?_
 clear f_o c_o
 have HD4 := Keep.mk ((HD2.out.below BA2.out).setO HN.out.1 (by show Grown _ _ fun k => g.ov.ownBlock = some k; rw [Hov.out]; exact HN.out.2.1) (by show Moved _ g.ov _; rw [Hov.out]; exact HN.out.2.2))
 have HX4 := Keep.mk (HX3.out.set_ne (b' := d) (j := 3) (fun e => by subst e; have := HX3.out.typ.one HB3.out.typ; revert this; decide) (.slice a3 o'.length c3'))
 have G4 : Keep (Grown w (w3.setCell ⟨d, 3, none⟩ (.slice a3 o'.length c3')) (DgS d g)) := ⟨((G2.out.trans (Grown.below BA2.out)).next HN.out.2.1 fun i _ e => .inr (.inr (.inr (.inr (.inl (by rw [Hov.out]; exact e)))))).next (Grown.setCell w3 d 3 _ (S := fun k => k = d) fun _ => rfl) fun i _ e => .inl e⟩
 have GS4 : Keep (Grown w2 (w3.setCell ⟨d, 3, none⟩ (.slice a3 o'.length c3')) (fun k => g.ov.ownBlock = some k ∨ k = d)) := ⟨((Grown.below (S := fun k => g.ov.ownBlock = some k ∨ k = d) BA2.out).next HN.out.2.1 fun i _ e => .inl (by rw [Hov.out]; exact e)).next (Grown.setCell w3 d 3 _ (S := fun k => k = d) fun _ => rfl) fun i _ e => .inr e⟩
 have M4 : Keep (Moved w g.ov (.slice a3 o'.length c3')) := ⟨by rw [Hov.out]; exact HN.out.2.2.imp id fun ⟨q, e, h⟩ => ⟨q, e, Nat.le_trans G2.out.size (Nat.le_trans BA2.out.size h)⟩⟩
 generalize w3.setCell ⟨d, 3, none⟩ (.slice a3 o'.length c3') = w4 at *
 obtain ⟨v4, hv4⟩ : ∃ u : Value, u = .slice a3 o'.length c3' := ⟨_, rfl⟩
 rw [← hv4] at HD4 M4 ⊢
 refine hK _ _ ⟨trivial, vtx_rng (hvv.out ▸ HX4.out), blk_rng HX4.out⟩ fun hH6 => ?_
 clear hK hH5 hH6 HB3 HX3 HN c3 hv4
 simp only [Act.put, pqA, pqB, pqC]
 refine wpAnyH_done (by kernel_rfl) ?_ _
 rotate_left
 all_goals
  refine hK3 _ _ ?_
  refine wp_seq_k fun K6 hK6 => ?_
  obtain ⟨ha, hc, hhv⟩ := HD4.out.oh.sl
  change g.hv = .slice ha g.heads.length hc at hhv
  have Hhv := Keep.mk hhv
  clear hhv
  have c2 : w4.cell? ⟨d, 2, none⟩ = some (.slice ha g.heads.length hc) := by have h := HD4.out.blk.c 2 (by rfl : (dgA { { g with held := g.held ++ [v] } with ov := v4, order := o' })[2]? = some g.hv); rw [Hhv.out] at h; exact h
  have HR4 := Keep.mk (HR2.out.grown GS4.out fun b o n c e hb => (HK2.out b (by rw [e]; rfl)).2 (hb.elim (fun h => HD2.out.av _ (.inr (.inr (.inr (.inr (.inl h)))))) fun h => HD2.out.av _ (.inl h)))
  have HK4 : Keep (∀ k, (Value.slice pa v.ps.length pc).ownBlock = some k → k < w4.heap.size ∧ ¬ Av k) := ⟨fun k hk => ⟨Nat.lt_of_lt_of_le (HK2.out k hk).1 GS4.out.size, (HK2.out k hk).2⟩⟩
  have AP : Keep (∀ k, (.slice ha g.heads.length hc : Value).ownBlock = some k → (Value.slice pa v.ps.length pc).ownBlock ≠ some k) := ⟨fun k hk e => (HK4.out k e).2 (HD2.out.av _ (.inr (.inr (.inr (.inl (by show g.hv.ownBlock = _; rw [Hhv.out]; exact hk))))))⟩
  refine rgn ?_
  refine VlS (.pointer (some ⟨d, 0, none⟩)) ?_
  refine VlS (.pointer (some ⟨d, 0, none⟩)) ?_
  refine VlS (.pointer (some ⟨d, 0, none⟩)) ?_
  refine VlS (.pointer (some ⟨d, 2, none⟩)) ?_
  refine VlS (.slice ha g.heads.length hc) ?_
  refine VlS (.func (.func 128) #[] #[.pointer (some ⟨w.heap.size, 0, none⟩)]) ?_
  clear c2
  refine WL.callF (by kernel_rfl) 127 _ _ rfl Tryz.in127 #[.slice ha g.heads.length hc, .func (.func 128) #[] #[.pointer (some ⟨w.heap.size, 0, none⟩)]] (by simp [Act.eval]) ?_
  refine (HDf.out _ (.slice pa v.ps.length pc) w.heap.size w4 (Hhv.out ▸ HD4.out.oh) (hvv.out ▸ HX4.out) HR4.out AP.out).mono ?_
  rintro e w5 ⟨v5, rfl, h5⟩
  refine ⟨_, rfl, ?_⟩
  have HN5 := Keep.mk h5
  have HX5 := Keep.mk (h5.2.1.blk HX4.out fun e => by have := ((Hhv.out ▸ HD4.out.oh : OwnH w4 (.slice ha g.heads.length hc) g.heads).typ e).one HX4.out.typ; revert this; decide)
  have HB5 := Keep.mk (h5.2.1.blk HD4.out.blk fun e => by have := ((Hhv.out ▸ HD4.out.oh : OwnH w4 (.slice ha g.heads.length hc) g.heads).typ e).one HD4.out.blk.typ; revert this; decide)
  obtain ⟨a5, c5, e5⟩ := h5.1.sl
  subst e5
  clear h5
  simp only [Act.put, pqA, pqB, pqC]
  refine VlS (.pointer (some ⟨d, 0, none⟩)) ?_
  refine VlS (.pointer (some ⟨d, 2, none⟩)) ?_
  have f_o := HB5.out.frozen 2
  have c_o : w5.cell? ⟨d, 2, none⟩ = some (.slice ha g.heads.length hc) := by have h := HB5.out.c 2 (by rfl : (dgA { { g with held := g.held ++ [v] } with ov := v4, order := o' })[2]? = some g.hv); rw [Hhv.out] at h; exact h
  refine WL.cell (by kernel_rfl) (w5.setCell ⟨d, 2, none⟩ (.slice a5 h1.length c5)) (by go_simp) ?_
  clear f_o c_o
  have HD6 := Keep.mk (HD4.out.setH HN5.out.1 (by show Grown _ _ fun k => g.hv.ownBlock = some k; rw [Hhv.out]; exact HN5.out.2.1) (by show Moved _ g.hv _; rw [Hhv.out]; exact HN5.out.2.2))
  have HX6 := Keep.mk (HX5.out.set_ne (b' := d) (j := 2) (fun e => by subst e; have := HX5.out.typ.one HB5.out.typ; revert this; decide) (.slice a5 h1.length c5))
  have G6 : Keep (Grown w (w5.setCell ⟨d, 2, none⟩ (.slice a5 h1.length c5)) (DgS d g)) := ⟨(G4.out.next HN5.out.2.1 fun i _ e => .inr (.inr (.inr (.inl (by rw [Hhv.out]; exact e))))).next (Grown.setCell w5 d 2 _ (S := fun k => k = d) fun _ => rfl) fun i _ e => .inl e⟩
  have M6 : Keep (Moved w g.hv (.slice a5 h1.length c5)) := ⟨by rw [Hhv.out]; exact HN5.out.2.2.imp id fun ⟨q, e, h⟩ => ⟨q, e, Nat.le_trans G4.out.size h⟩⟩
  generalize w5.setCell ⟨d, 2, none⟩ (.slice a5 h1.length c5) = w6 at *
  obtain ⟨v6, hv6⟩ : ∃ u : Value, u = .slice a5 h1.length c5 := ⟨_, rfl⟩
  rw [← hv6] at HD6 M6
  have Hv6 := Keep.mk hv6
  clear hv6 HB5 HX5 HN5 HX4 HR4 AP HK4
  simp only [Act.put]
  refine WL.nil (hK6 _ _ ?_)
  refine wp_seq_k fun K7 hK7 => ?_
  have hS0 : Keep ((fun wx => wx.cell? ⟨d, 2, none⟩ = some (.slice a5 h1.length c5) ∧ wx.rangeAt w.heap.size 0 (bytesA 32 v.id.f).toList ∧ wx.rangeAt w.heap.size 0 vv.toList) w6.drew) := ⟨⟨by have h := HD6.out.blk.drew.c 2 (by rfl : (dgA { { { g with held := g.held ++ [v] } with ov := v4, order := o' } with hv := v6, heads := h1 })[2]? = some v6); rw [Hv6.out] at h; exact h, vtx_rng (hvv.out ▸ HX6.out.drew), blk_rng HX6.out.drew⟩⟩
  refine wp_region_held_drew (S := fun wx => wx.cell? ⟨d, 2, none⟩ = some (.slice a5 h1.length c5) ∧ wx.rangeAt w.heap.size 0 (bytesA 32 v.id.f).toList ∧ wx.rangeAt w.heap.size 0 vv.toList) (by kernel_rfl) (hS0.out) (fun hHeld => ?_)
  refine tkS (i := 0) (oi := ⟨some 37, Op.move (Operand.tmp 0), 133, _, _, none⟩) (v := .pointer (some ⟨d, 0, none⟩)) rfl (Or.inl ⟨by rfl, fun w hS => by obtain ⟨hS1, hS2, hS3⟩ := hS; go_simp⟩) hHeld ?_
  refine tkS (i := 1) (oi := ⟨some 38, Op.nilCheck (Operand.tmp 37), 0, _, _, none⟩) (v := .pointer (some ⟨d, 0, none⟩)) rfl (Or.inl ⟨by rfl, fun w hS => by obtain ⟨hS1, hS2, hS3⟩ := hS; go_simp⟩) hHeld ?_
  refine tkS (i := 2) (oi := ⟨some 39, Op.fieldAddr 152 (Operand.tmp 38) 2, 0, _, _, none⟩) (v := .pointer (some ⟨d, 2, none⟩)) rfl (Or.inl ⟨by rfl, fun w hS => by obtain ⟨hS1, hS2, hS3⟩ := hS; go_simp⟩) hHeld ?_
  refine tkS (i := 3) (oi := ⟨some 40, Op.load 24 (Operand.tmp 39), 24, _, _, none⟩) (v := .slice a5 h1.length c5) rfl (Or.inl ⟨by rfl, fun w hS => by obtain ⟨hS1, hS2, hS3⟩ := hS; go_simp⟩) hHeld ?_
  refine tkS (i := 4) (oi := ⟨some 41, Op.fieldAddr 139 (Operand.tmp 3) 0, 0, _, _, none⟩) (v := .pointer (some ⟨w.heap.size, 0, none⟩)) rfl (Or.inl ⟨by rfl, fun w hS => by obtain ⟨hS1, hS2, hS3⟩ := hS; go_simp⟩) hHeld ?_
  refine tkS (i := 5) (oi := ⟨some 42, Op.load 36 (Operand.tmp 41), 36, _, _, none⟩) (v := .agg (bytesA 32 v.id.f)) rfl (yieldsIf_ld (by rfl) (Operand.tmp 41) 36 rfl w.heap.size 0 rfl (bytesA 32 v.id.f) _ Tryz.underlying36 rfl (size36A _) fun w hS => hS.2.1) hHeld ?_
  refine wpAnyH_ready (rs := [6]) (by kernel_rfl) (by simp) ?_
  refine AllReadyH.cons (o := ⟨some 43, Op.call { callee := Callee.value (Operand.func 130), args := #[Operand.tmp 40, Operand.tmp 42, Operand.func 86], argTypes := #[24, 36, 56] }, 94, _, _, none⟩) rfl (fun K hK => ?_) AllReadyH.nil
  rw [if_pos (by rfl)]
  have hrw : HRow w6.drew (.slice a5 h1.length c5) h1 := Hv6.out ▸ (HD6.out.drew.oh.row : HRow w6.drew v6 h1)
  have hbs := bsearch_any _ h1 v.id w6.drew hrw HInc.out (by have := HIl.out; omega)
  clear hrw
  refine wp_callF 130 _ _ rfl Tryz.in130 #[.slice a5 h1.length c5, .agg (bytesA 32 v.id.f), .func (.func 86) #[] #[]] (by simp [Act.eval]) (fun u wx => ∃ (i : Nat) (fd : Bool), u = .tuple #[.int .i64 (i : Int), .bool fd] ∧ InsOk h1 i v.id h2 ∧ Below w6.drew.heap.size w6.drew wx) (hbs.mono fun e w' ⟨i, fd, h1, h2, h3, h4, _, h6⟩ => ⟨_, h1, i, fd, rfl, HI2.out i h2 h3 h4, h6⟩) ?_
  clear hbs
  rintro _ w7 ⟨i2, fd, rfl, hi2, hb7⟩
  have HI2' := Keep.mk hi2
  have B7 : Keep (Below w6.heap.size w6 w7) := ⟨belowT (Below.refl _ w6).drew hb7⟩
  have HX7 := Keep.mk (HX6.out.below B7.out HX6.out.lt)
  have HD7 := Keep.mk (HD6.out.below B7.out)
  have G7 : Keep (Grown w w7 (DgS d g)) := ⟨G6.out.trans (Grown.below B7.out)⟩
  refine hK _ _ ⟨by have h := HD7.out.blk.c 2 (by rfl : (dgA { { { g with held := g.held ++ [v] } with ov := v4, order := o' } with hv := v6, heads := h1 })[2]? = some v6); rw [Hv6.out] at h; exact h, vtx_rng (hvv.out ▸ HX7.out), blk_rng HX7.out⟩ fun hH1 => ?_
  clear hK hi2 hb7 HX6 HD6 G6 B7 hS0
  simp only [Act.put, pqA, pqB, pqC]
  refine tkS (i := 7) (oi := ⟨some 36, Op.move (Operand.tmp 43), 94, _, _, none⟩) (v := .tuple #[.int .i64 (i2 : Int), .bool fd]) rfl (Or.inl ⟨by rfl, fun w hS => by obtain ⟨hS1, hS2, hS3⟩ := hS; go_simp⟩) hH1 ?_
  refine tkS (i := 8) (oi := ⟨some 44, Op.extract (Operand.tmp 36) 0, 3, _, _, none⟩) (v := .int .i64 (i2 : Int)) rfl (Or.inl ⟨by rfl, fun w hS => by obtain ⟨hS1, hS2, hS3⟩ := hS; go_simp⟩) hH1 ?_
  refine tkS (i := 9) (oi := ⟨some 45, Op.extract (Operand.tmp 36) 1, 4, _, _, none⟩) (v := .bool fd) rfl (Or.inl ⟨by rfl, fun w hS => by obtain ⟨hS1, hS2, hS3⟩ := hS; go_simp⟩) hH1 ?_
  refine tkS (i := 10) (oi := ⟨some 4, Op.assign (Operand.tmp 44), 3, _, _, none⟩) (v := .int .i64 (i2 : Int)) rfl (Or.inl ⟨by rfl, fun w hS => by obtain ⟨hS1, hS2, hS3⟩ := hS; go_simp⟩) hH1 ?_
  refine tkS (i := 11) (oi := ⟨some 5, Op.assign (Operand.tmp 45), 4, _, _, none⟩) (v := .bool fd) rfl (Or.inl ⟨by rfl, fun w hS => by obtain ⟨hS1, hS2, hS3⟩ := hS; go_simp⟩) hH1 ?_
  refine wpAnyH_done (by kernel_rfl) ?_ _
  refine hK7 _ _ ?_
  have c5k : Keep (∀ wx, Below w7.heap.size w7 wx → (fun wx => True ∧ wx.rangeAt w.heap.size 0 (bytesA 32 v.id.f).toList ∧ wx.rangeAt w.heap.size 0 vv.toList) wx) := ⟨fun wx hb => ⟨trivial, vtx_rng (hvv.out ▸ HX7.out.below hb HX7.out.lt), blk_rng (HX7.out.below hb HX7.out.lt)⟩⟩
  have B2 : Keep (Below w7.heap.size w7 w7.drew) := ⟨(Below.refl _ _).drew⟩
  refine wp_region_held_drew (S := fun wx => True ∧ wx.rangeAt w.heap.size 0 (bytesA 32 v.id.f).toList ∧ wx.rangeAt w.heap.size 0 vv.toList) (by kernel_rfl) (c5k.out _ B2.out) (fun hHeld => ?_)
  refine tkS (i := 0) (oi := ⟨some 46, Op.move (Operand.tmp 0), 133, _, _, none⟩) (v := .pointer (some ⟨d, 0, none⟩)) rfl (Or.inl ⟨by rfl, fun w hS => by obtain ⟨hS1, hS2, hS3⟩ := hS; go_simp⟩) hHeld ?_
  refine tkS (i := 1) (oi := ⟨some 47, Op.move (Operand.tmp 0), 133, _, _, none⟩) (v := .pointer (some ⟨d, 0, none⟩)) rfl (Or.inl ⟨by rfl, fun w hS => by obtain ⟨hS1, hS2, hS3⟩ := hS; go_simp⟩) hHeld ?_
  refine tkS (i := 2) (oi := ⟨some 48, Op.nilCheck (Operand.tmp 47), 0, _, _, none⟩) (v := .pointer (some ⟨d, 0, none⟩)) rfl (Or.inl ⟨by rfl, fun w hS => by obtain ⟨hS1, hS2, hS3⟩ := hS; go_simp⟩) hHeld ?_
  refine tkS (i := 3) (oi := ⟨some 49, Op.fieldAddr 152 (Operand.tmp 48) 2, 0, _, _, none⟩) (v := .pointer (some ⟨d, 2, none⟩)) rfl (Or.inl ⟨by rfl, fun w hS => by obtain ⟨hS1, hS2, hS3⟩ := hS; go_simp⟩) hHeld ?_
  refine tkS (i := 5) (oi := ⟨some 51, Op.move (Operand.tmp 4), 3, _, _, none⟩) (v := .int .i64 (i2 : Int)) rfl (Or.inl ⟨by rfl, fun w hS => by obtain ⟨hS1, hS2, hS3⟩ := hS; go_simp⟩) hHeld ?_
  refine tkS (i := 6) (oi := ⟨some 52, Op.fieldAddr 139 (Operand.tmp 3) 0, 0, _, _, none⟩) (v := .pointer (some ⟨w.heap.size, 0, none⟩)) rfl (Or.inl ⟨by rfl, fun w hS => by obtain ⟨hS1, hS2, hS3⟩ := hS; go_simp⟩) hHeld ?_
  refine tkS (i := 7) (oi := ⟨some 53, Op.load 36 (Operand.tmp 52), 36, _, _, none⟩) (v := .agg (bytesA 32 v.id.f)) rfl (yieldsIf_ld (by rfl) (Operand.tmp 52) 36 rfl w.heap.size 0 rfl (bytesA 32 v.id.f) _ Tryz.underlying36 rfl (size36A _) fun w hS => hS.2.1) hHeld ?_
  refine wpAnyH_ready (rs := [4, 8]) (by kernel_rfl) (by simp) ?_
  refine AllReadyH.cons (o := ⟨some 50, Op.load 24 (Operand.tmp 49), 24, _, _, none⟩) rfl (fun K hK => ?_) (AllReadyH.cons (o := ⟨some 54, Op.buildSlice 24 1 #[(0, Operand.tmp 53)], 24, _, _, none⟩) rfl (fun K hK => ?_) AllReadyH.nil)
  rw [if_pos (by rfl)]
  have c_o : w7.drew.cell? ⟨d, 2, none⟩ = some (.slice a5 h1.length c5) := by have h := (HD7.out.blk.below B2.out HD7.out.blk.lt).c 2 (by rfl : (dgA { { { g with held := g.held ++ [v] } with ov := v4, order := o' } with hv := v6, heads := h1 })[2]? = some v6); rw [Hv6.out] at h; exact h
  refine wp_val (.slice a5 h1.length c5) (by go_simp) ?_
  clear c_o
  refine hK _ _ (c5k.out _ B2.out) fun hR1 => ?_
  clear hK
  simp only [Act.put, pqA, pqB, pqC]
  refine wpAnyH_ready (rs := [8]) (by kernel_rfl) (by simp) ?_
  refine AllReadyH.cons (o := ⟨some 54, Op.buildSlice 24 1 #[(0, Operand.tmp 53)], 24, _, _, none⟩) rfl (fun K hK => ?_) AllReadyH.nil
  rw [if_pos (by rfl)]
  refine wp_bs 24 1 _ rfl #[(0, .agg (bytesA 32 v.id.f))] (by simp [Act.eval]) _ _ (bsH v.id _) ?_
  have HGy := Keep.mk (Blk.new w7.drew 36 (bytesA 32 v.id.f))
  have BB2 := Keep.mk (belowT B2.out (below_new w7.drew (.cells (bytesA 32 v.id.f) 36)))
  have Lgy : Keep (w7.heap.size ≤ w7.drew.heap.size) := ⟨B2.out.size⟩
  generalize w7.drew.alloc (.cells (bytesA 32 v.id.f) 36) = wb2 at *
  generalize w7.drew.heap.size = gy at *
  refine hK _ _ (c5k.out _ BB2.out) fun hR2 => ?_
  clear hK
  simp only [Act.put, pqA, pqB, pqC]
  refine wpAnyH_ready (rs := [9]) (by kernel_rfl) (by simp) ?_
  refine AllReadyH.cons (o := ⟨some 55, Op.call { callee := Callee.value (Operand.func 125), args := #[Operand.tmp 50, Operand.tmp 51, Operand.tmp 54], argTypes := #[24, 3, 24] }, 24, _, _, none⟩) rfl (fun K hK => ?_) AllReadyH.nil
  rw [if_pos (by rfl)]
  refine wp_callF 125 _ _ rfl Tryz.in125 #[.slice a5 h1.length c5, .int .i64 (i2 : Int), .slice (some ⟨gy, 0, none⟩) 1 1] (by simp [Act.eval]) (fun u wx => NewL wb2 wx (.slice a5 h1.length c5) u h2) ((HI2'.out _ gy wb2 (Hv6.out ▸ (HD7.out.below BB2.out).oh) HGy.out fun e => by have := (HD7.out.oh).lt gy (by show v6.ownBlock = _; rw [Hv6.out]; exact e); have := Lgy.out; omega)) ?_
  rintro v8 w8 h8
  have HN8 := Keep.mk h8
  have HX8 := Keep.mk (h8.2.1.blk (HX7.out.below BB2.out HX7.out.lt) fun e => by have := (((HD7.out.below BB2.out).oh).typ (by show v6.ownBlock = _; rw [Hv6.out]; exact e)).one (HX7.out.below BB2.out HX7.out.lt).typ; revert this; decide)
  have HB8 := Keep.mk (h8.2.1.blk (HD7.out.below BB2.out).blk fun e => by have := (((HD7.out.below BB2.out).oh).typ (by show v6.ownBlock = _; rw [Hv6.out]; exact e)).one (HD7.out.below BB2.out).blk.typ; revert this; decide)
  refine hK _ _ ⟨trivial, vtx_rng (hvv.out ▸ HX8.out), blk_rng HX8.out⟩ fun hH5 => ?_
  obtain ⟨a8, c8, e8⟩ := h8.1.sl
  subst e8
  clear hK h8
  simp only [Act.put, pqA, pqB, pqC]
  refine tkS (i := 10) (oi := ⟨some 56, Op.nilCheck (Operand.tmp 46), 0, _, _, none⟩) (v := .pointer (some ⟨d, 0, none⟩)) rfl (Or.inl ⟨by rfl, fun w hS => by obtain ⟨hS1, hS2, hS3⟩ := hS; go_simp⟩) hH5 ?_
  refine tkS (i := 11) (oi := ⟨some 57, Op.fieldAddr 152 (Operand.tmp 56) 2, 0, _, _, none⟩) (v := .pointer (some ⟨d, 2, none⟩)) rfl (Or.inl ⟨by rfl, fun w hS => by obtain ⟨hS1, hS2, hS3⟩ := hS; go_simp⟩) hH5 ?_
  refine wpAnyH_ready (rs := [12]) (by kernel_rfl) (by simp) ?_
  refine AllReadyH.cons (o := ⟨none, Op.store 24 (Operand.tmp 57) (Operand.tmp 55), 0, _, _, none⟩) rfl (fun K hK => ?_) AllReadyH.nil
  rw [if_pos (by rfl)]
  have f_o := HB8.out.frozen 2
  have c_o : w8.cell? ⟨d, 2, none⟩ = some (.slice a5 h1.length c5) := by have h := HB8.out.c 2 (by rfl : (dgA { { { g with held := g.held ++ [v] } with ov := v4, order := o' } with hv := v6, heads := h1 })[2]? = some v6); rw [Hv6.out] at h; exact h
  refine wp_cellS (w8.setCell ⟨d, 2, none⟩ (.slice a8 h2.length c8)) (by go_simp) ?_
  clear f_o c_o
  have HD9 := Keep.mk ((HD7.out.below BB2.out).setH HN8.out.1 (by show Grown _ _ fun k => v6.ownBlock = some k; rw [Hv6.out]; exact HN8.out.2.1) (by show Moved _ v6 _; rw [Hv6.out]; exact HN8.out.2.2))
  have HX9 := Keep.mk (HX8.out.set_ne (b' := d) (j := 2) (fun e => by subst e; have := HX8.out.typ.one HB8.out.typ; revert this; decide) (.slice a8 h2.length c8))
  have G9 : Keep (Grown w (w8.setCell ⟨d, 2, none⟩ (.slice a8 h2.length c8)) (DgS d g)) := ⟨((G7.out.trans (Grown.below BB2.out)).next HN8.out.2.1 fun i hi e => by rw [← Hv6.out] at e; exact (M6.out.elim (fun h => .inr (.inr (.inr (.inl (by rw [← h]; exact e))))) fun ⟨q, h, hq⟩ => by rw [e] at h; have := Option.some.inj h; omega)).next (Grown.setCell w8 d 2 _ (S := fun k => k = d) fun _ => rfl) fun i _ e => .inl e⟩
  have M8 : Keep (Moved w v6 (.slice a8 h2.length c8)) := ⟨by rw [Hv6.out]; exact HN8.out.2.2.imp id fun ⟨q, e, h⟩ => ⟨q, e, Nat.le_trans G7.out.size (Nat.le_trans BB2.out.size h)⟩⟩
  generalize w8.setCell ⟨d, 2, none⟩ (.slice a8 h2.length c8) = w9 at *
  obtain ⟨v9, hv9⟩ : ∃ u : Value, u = .slice a8 h2.length c8 := ⟨_, rfl⟩
  rw [← hv9] at HD9 M8
  refine hK _ _ ⟨trivial, vtx_rng (hvv.out ▸ HX9.out), blk_rng HX9.out⟩ fun hH6 => ?_
  clear hK hH5 hH6 HB8 HX8 HN8 c5k hv9
  simp only [Act.put, pqA, pqB, pqC]
  refine wpAnyH_done (by kernel_rfl) ?_ _
  rotate_left
  rw [if_pos (by rfl)]
  refine wp_bs 24 1 _ rfl #[(0, .agg (bytesA 32 v.id.f))] (by simp [Act.eval]) _ _ (bsH v.id _) ?_
  have HGy := Keep.mk (Blk.new w7.drew 36 (bytesA 32 v.id.f))
  have BB1 := Keep.mk (belowT B2.out (below_new w7.drew (.cells (bytesA 32 v.id.f) 36)))
  have Lgy : Keep (w7.heap.size ≤ w7.drew.heap.size) := ⟨B2.out.size⟩
  generalize w7.drew.alloc (.cells (bytesA 32 v.id.f) 36) = wb1 at *
  generalize w7.drew.heap.size = gy at *
  refine hK _ _ (c5k.out _ BB1.out) fun hR1 => ?_
  clear hK
  simp only [Act.put, pqA, pqB, pqC]
  refine wpAnyH_ready (rs := [4]) (by kernel_rfl) (by simp) ?_
  refine AllReadyH.cons (o := ⟨some 50, Op.load 24 (Operand.tmp 49), 24, _, _, none⟩) rfl (fun K hK => ?_) AllReadyH.nil
  rw [if_pos (by rfl)]
  have c_o : wb1.cell? ⟨d, 2, none⟩ = some (.slice a5 h1.length c5) := by have h := (HD7.out.blk.below BB1.out HD7.out.blk.lt).c 2 (by rfl : (dgA { { { g with held := g.held ++ [v] } with ov := v4, order := o' } with hv := v6, heads := h1 })[2]? = some v6); rw [Hv6.out] at h; exact h
  refine wp_val (.slice a5 h1.length c5) (by go_simp) ?_
  clear c_o
  refine hK _ _ (c5k.out _ BB1.out) fun hR2 => ?_
  clear hK
  simp only [Act.put, pqA, pqB, pqC]
  refine wpAnyH_ready (rs := [9]) (by kernel_rfl) (by simp) ?_
  refine AllReadyH.cons (o := ⟨some 55, Op.call { callee := Callee.value (Operand.func 125), args := #[Operand.tmp 50, Operand.tmp 51, Operand.tmp 54], argTypes := #[24, 3, 24] }, 24, _, _, none⟩) rfl (fun K hK => ?_) AllReadyH.nil
  rw [if_pos (by rfl)]
  refine wp_callF 125 _ _ rfl Tryz.in125 #[.slice a5 h1.length c5, .int .i64 (i2 : Int), .slice (some ⟨gy, 0, none⟩) 1 1] (by simp [Act.eval]) (fun u wx => NewL wb1 wx (.slice a5 h1.length c5) u h2) ((HI2'.out _ gy wb1 (Hv6.out ▸ (HD7.out.below BB1.out).oh) HGy.out fun e => by have := (HD7.out.oh).lt gy (by show v6.ownBlock = _; rw [Hv6.out]; exact e); have := Lgy.out; omega)) ?_
  rintro v8 w8 h8
  have HN8 := Keep.mk h8
  have HX8 := Keep.mk (h8.2.1.blk (HX7.out.below BB1.out HX7.out.lt) fun e => by have := (((HD7.out.below BB1.out).oh).typ (by show v6.ownBlock = _; rw [Hv6.out]; exact e)).one (HX7.out.below BB1.out HX7.out.lt).typ; revert this; decide)
  have HB8 := Keep.mk (h8.2.1.blk (HD7.out.below BB1.out).blk fun e => by have := (((HD7.out.below BB1.out).oh).typ (by show v6.ownBlock = _; rw [Hv6.out]; exact e)).one (HD7.out.below BB1.out).blk.typ; revert this; decide)
  refine hK _ _ ⟨trivial, vtx_rng (hvv.out ▸ HX8.out), blk_rng HX8.out⟩ fun hH5 => ?_
  obtain ⟨a8, c8, e8⟩ := h8.1.sl
  subst e8
  clear hK h8
  simp only [Act.put, pqA, pqB, pqC]
  refine tkS (i := 10) (oi := ⟨some 56, Op.nilCheck (Operand.tmp 46), 0, _, _, none⟩) (v := .pointer (some ⟨d, 0, none⟩)) rfl (Or.inl ⟨by rfl, fun w hS => by obtain ⟨hS1, hS2, hS3⟩ := hS; go_simp⟩) hH5 ?_
  refine tkS (i := 11) (oi := ⟨some 57, Op.fieldAddr 152 (Operand.tmp 56) 2, 0, _, _, none⟩) (v := .pointer (some ⟨d, 2, none⟩)) rfl (Or.inl ⟨by rfl, fun w hS => by obtain ⟨hS1, hS2, hS3⟩ := hS; go_simp⟩) hH5 ?_
  refine wpAnyH_ready (rs := [12]) (by kernel_rfl) (by simp) ?_
  refine AllReadyH.cons (o := ⟨none, Op.store 24 (Operand.tmp 57) (Operand.tmp 55), 0, _, _, none⟩) rfl (fun K hK => ?_) AllReadyH.nil
  rw [if_pos (by rfl)]
  have f_o := HB8.out.frozen 2
  have c_o : w8.cell? ⟨d, 2, none⟩ = some (.slice a5 h1.length c5) := by have h := HB8.out.c 2 (by rfl : (dgA { { { g with held := g.held ++ [v] } with ov := v4, order := o' } with hv := v6, heads := h1 })[2]? = some v6); rw [Hv6.out] at h; exact h
  refine wp_cellS (w8.setCell ⟨d, 2, none⟩ (.slice a8 h2.length c8)) (by go_simp) ?_
  clear f_o c_o
  have HD9 := Keep.mk ((HD7.out.below BB1.out).setH HN8.out.1 (by show Grown _ _ fun k => v6.ownBlock = some k; rw [Hv6.out]; exact HN8.out.2.1) (by show Moved _ v6 _; rw [Hv6.out]; exact HN8.out.2.2))
  have HX9 := Keep.mk (HX8.out.set_ne (b' := d) (j := 2) (fun e => by subst e; have := HX8.out.typ.one HB8.out.typ; revert this; decide) (.slice a8 h2.length c8))
  have G9 : Keep (Grown w (w8.setCell ⟨d, 2, none⟩ (.slice a8 h2.length c8)) (DgS d g)) := ⟨((G7.out.trans (Grown.below BB1.out)).next HN8.out.2.1 fun i hi e => by rw [← Hv6.out] at e; exact (M6.out.elim (fun h => .inr (.inr (.inr (.inl (by rw [← h]; exact e))))) fun ⟨q, h, hq⟩ => by rw [e] at h; have := Option.some.inj h; omega)).next (Grown.setCell w8 d 2 _ (S := fun k => k = d) fun _ => rfl) fun i _ e => .inl e⟩
  have M8 : Keep (Moved w v6 (.slice a8 h2.length c8)) := ⟨by rw [Hv6.out]; exact HN8.out.2.2.imp id fun ⟨q, e, h⟩ => ⟨q, e, Nat.le_trans G7.out.size (Nat.le_trans BB1.out.size h)⟩⟩
  generalize w8.setCell ⟨d, 2, none⟩ (.slice a8 h2.length c8) = w9 at *
  obtain ⟨v9, hv9⟩ : ∃ u : Value, u = .slice a8 h2.length c8 := ⟨_, rfl⟩
  rw [← hv9] at HD9 M8
  refine hK _ _ ⟨trivial, vtx_rng (hvv.out ▸ HX9.out), blk_rng HX9.out⟩ fun hH6 => ?_
  clear hK hH5 hH6 HB8 HX8 HN8 c5k hv9
  simp only [Act.put, pqA, pqB, pqC]
  refine wpAnyH_done (by kernel_rfl) ?_ _
  rotate_left
  all_goals
   go_end0
   exact ⟨rfl, _, take_end HD.out HD9.out (fun k h => .inl (.inl (.inl h))) G9.out M4.out M6.out M8.out, rfl, rfl, rfl, rfl, rfl, rfl⟩
theorem Tryz.in131 (w : World) (vs : Array Value) : (callFunc 131 vs).run Tryz.prog w = .ok (.enter 131 vs) w := by kernel_rfl
theorem wp_del {Q : Exit → Act → World → Prop} {o : Oper} {a : Act} {w : World} {K : Act → World → Prop} (m k : Operand) (ho : o.op = .call { callee := .builtin .delete, args := #[m, k], argTypes := #[150, 36] }) (vm vk : Value) (hm : a.eval m = vm) (hk : a.eval k = vk) (w' : World)
  (hr : (Builtin.delete_ #[150, 36] o.type #[vm, vk]).run Tryz.prog w = .ok (.tuple #[]) w') (h : K (a.put o.dst (.tuple #[])) w') : o.wp Tryz.prog a w K Q := by
 unfold Oper.wp execOp
 simp only [ho, resolve, invoke, builtin, Sem.run_bind, Sem.run_pure, Result.andThen_ok, List.map_toArray, List.map_cons, List.map_nil, hm, hk, hr]
 exact h
set_option maxRecDepth 8000 in
set_option maxHeartbeats 400000 in
theorem forget_any (d : Nat) (x : Hs) (Av : Nat → Prop) (g : DG) (w : World) (hD : DagAt w Av d g) (hQ : hasB g.wait x = true → ∃ i : Nat, i < g.queue.length ∧ ixF x g.queue 0 = (i : Int)) (hQl : g.queue.length ≤ 1000000000) : Calls Tryz.prog 131 #[ptr d, .agg (bytesA 32 x.f)] w fun e w' =>
  (hasB g.wait x = false ∧ e = .returned (.bool false) ∧ Below w.heap.size w w') ∨ (hasB g.wait x = true ∧ e = .returned (.bool true) ∧ ∃ i : Nat, i < g.queue.length ∧ ixF x g.queue 0 = (i : Int) ∧ ∃ g', Ste w w' Av d g g' ∧ g'.room = g.room ∧ g'.held = g.held ∧ g'.wait = g.wait.eraseP (isV x) ∧ g'.queue = g.queue.take i ++ g.queue.drop (i + 1) ∧ g'.order = g.order ∧ g'.heads = g.heads) := by
 have HD := Keep.mk hD
 have HQ := Keep.mk hQ
 have HQl := Keep.mk hQl
 clear hD hQ hQl
 go_enter Tryz.func131, Tryz.ntmps131
 refine wp_seq_k fun K1 hK1 => rgn ?_
 refine WL.box (by kernel_rfl) 36 (.tmp 1) rfl (bytesA 32 x.f) rfl ?_
 obtain ⟨w1, hwn⟩ : ∃ wx, Keep (wx = w.alloc (.cells (bytesA 32 x.f) 36)) := ⟨_, ⟨rfl⟩⟩
 rw [← hwn.out]
 have HX1 : Keep (Blk w1 w.heap.size 36 (bytesA 32 x.f)) := ⟨by rw [hwn.out]; exact Blk.new _ _ _⟩
 have LB1 : Keep (Below w.heap.size w w1) := ⟨by rw [hwn.out]; exact below_new _ _⟩
 clear hwn
 have HD1 := Keep.mk (HD.out.below LB1.out)
 simp only [Act.put, pqA, pqB, pqC]
 refine VbF ?_
 refine WL.nil (hK1 _ _ ?_)
 refine wp_seq_k fun K2 hK2 => ?_
 refine wp_seq_k fun K3 hK3 => rgn ?_
 refine VlS (.pointer (some ⟨d, 0, none⟩)) ?_
 refine WL.row (by kernel_rfl) 36 (.tmp 3) rfl w.heap.size rfl 36 (bytesA 32 x.f) _ HX1.out Tryz.underlying36 rfl (Tryz.size36B _) ?_
 simp only [Act.put, pqA, pqB, pqC]
 refine WL.callF (by kernel_rfl) 121 _ _ rfl Tryz.in121 #[ptr d, .agg (bytesA 32 x.f)] (by simp [Act.eval]) ?_
 refine (waits_any d x Av g w1 HD1.out).mono ?_
 rintro e w2 ⟨rfl, hz⟩
 refine ⟨_, rfl, ?_⟩
 have HX2 := Keep.mk (HX1.out.below hz HX1.out.lt)
 have LB2 := Keep.mk (belowT LB1.out hz)
 have HD2 := Keep.mk (HD1.out.below hz)
 obtain ⟨fb, Hfb⟩ : ∃ b, Keep (hasB g.wait x = b) := ⟨_, ⟨rfl⟩⟩
 rw [show (g.wait.find? (isV x)).isSome = fb from Hfb.out]
 clear hz HX1 HD1
 simp only [Act.put, pqA, pqB, pqC]
 by_cases h1_3 : fb = true
 ·skip
  refine VbF ?_
  refine WL.nil (hK3 _ _ ?_)
  refine wp_cond_false rfl ?_
  refine wp_skip ?_
  refine hK2 _ _ ?_
  refine wp_seq_k fun K4 hK4 => ?_
  have hS0 : Keep ((fun wx => wx.cell? ⟨d, 4, none⟩ = some (.map (some g.wb)) ∧ wx.rangeAt w.heap.size 0 (bytesA 32 x.f).toList) w2.drew) := ⟨⟨HD2.out.blk.drew.c 4 rfl, blk_rng HX2.out.drew⟩⟩
  obtain ⟨i, hi⟩ := HQ.out (by rw [Hfb.out]; exact h1_3)
  have Hi := Keep.mk hi
  clear hi
  refine wp_region_held_drew (S := fun wx => wx.cell? ⟨d, 4, none⟩ = some (.map (some g.wb)) ∧ wx.rangeAt w.heap.size 0 (bytesA 32 x.f).toList) (by kernel_rfl) (hS0.out) (fun hHeld => ?_)
  refine tkS (i := 0) (oi := ⟨some 10, Op.move (Operand.tmp 0), 133, _, _, none⟩) (v := .pointer (some ⟨d, 0, none⟩)) rfl (Or.inl ⟨by rfl, fun w hS => by obtain ⟨hS1, hS2⟩ := hS; go_simp⟩) hHeld ?_
  refine tkS (i := 1) (oi := ⟨some 11, Op.nilCheck (Operand.tmp 10), 0, _, _, none⟩) (v := .pointer (some ⟨d, 0, none⟩)) rfl (Or.inl ⟨by rfl, fun w hS => by obtain ⟨hS1, hS2⟩ := hS; go_simp⟩) hHeld ?_
  refine tkS (i := 2) (oi := ⟨some 12, Op.fieldAddr 152 (Operand.tmp 11) 4, 0, _, _, none⟩) (v := .pointer (some ⟨d, 4, none⟩)) rfl (Or.inl ⟨by rfl, fun w hS => by obtain ⟨hS1, hS2⟩ := hS; go_simp⟩) hHeld ?_
  refine tkS (i := 3) (oi := ⟨some 13, Op.load 150 (Operand.tmp 12), 150, _, _, none⟩) (v := .map (some g.wb)) rfl (Or.inl ⟨by rfl, fun w hS => by obtain ⟨hS1, hS2⟩ := hS; go_simp⟩) hHeld ?_
  refine tkS (i := 4) (oi := ⟨some 14, Op.load 36 (Operand.tmp 3), 36, _, _, none⟩) (v := .agg (bytesA 32 x.f)) rfl (yieldsIf_ld (by rfl) (Operand.tmp 3) 36 rfl w.heap.size 0 rfl (bytesA 32 x.f) _ Tryz.underlying36 rfl (size36A _) fun w hS => hS.2) hHeld ?_
  refine wpAnyH_ready (rs := [5]) (by kernel_rfl) (by simp) ?_
  refine AllReadyH.cons (o := ⟨none, Op.call { callee := Callee.builtin Builtin.delete, args := #[Operand.tmp 13, Operand.tmp 14], argTypes := #[150, 36] }, 0, _, _, none⟩) rfl (fun K hK => ?_) AllReadyH.nil
  rw [if_pos (by rfl)]
  obtain ⟨w3, hr3, hm3, hg3⟩ := del_any (HD2.out.drew).wait (HD2.out.av _ (.inr (.inr (.inl rfl)))) x 0
  refine wp_del (Operand.tmp 13) (Operand.tmp 14) rfl _ _ rfl rfl w3 hr3 ?_
  have HX3 := Keep.mk (hg3.blk HX2.out.drew fun e => HD2.out.wait.ne HX2.out e)
  have HD3 := Keep.mk (HD2.out.drew.addWait hm3 hg3)
  have G3 : Keep (Grown w w3 (DgS d g)) := ⟨(Grown.below (S := DgS d g) LB2.out).next (T := fun k => k = g.wb) ((Grown.refl w2 _).drew.trans hg3) fun i _ e => e ▸ .inr (.inr (.inl rfl))⟩
  refine hK _ _ ⟨HD3.out.blk.c 4 rfl, blk_rng HX3.out⟩ fun hH1 => ?_
  clear hK hr3 hm3 hg3 hS0 HX2 HD2
  simp only [Act.put, pqA, pqB, pqC]
  refine wpAnyH_done (by kernel_rfl) ?_ _
  refine hK4 _ _ ?_
  refine wp_seq_k fun K5 hK5 => ?_
  obtain ⟨gq, qc, cq, hqv, hqb, hqc, hqt⟩ : ∃ gq qc cq, g.qv = .slice (some ⟨gq, 0, none⟩) g.queue.length qc ∧ Blk w3 gq 36 cq ∧ g.queue.length ≤ qc ∧ qc ≤ maxLen := by
   have hO : OwnH w3 g.qv g.queue := HD3.out.oq
   rcases hO.2 with ⟨_, h0⟩ | ⟨gq, qc, cq, h1, _, h3, h4, h5, _⟩
   ·have := Hi.out.1; omega
   ·exact ⟨gq, qc, cq, h1, h3, h4, h5⟩
  have Hqv := Keep.mk hqv
  have Hqc : Keep (g.queue.length ≤ qc ∧ qc ≤ maxLen) := ⟨⟨hqc, hqt⟩⟩
  clear hqv hqb hqc hqt
  have hS0 : Keep ((fun wx => wx.cell? ⟨d, 5, none⟩ = some (.slice (some ⟨gq, 0, none⟩) g.queue.length qc) ∧ wx.rangeAt w.heap.size 0 (bytesA 32 x.f).toList) w3.drew) := ⟨⟨by have h := HD3.out.blk.drew.c 5 (by rfl : (dgA { g with wait := g.wait.eraseP (isV x) })[5]? = some g.qv); rw [Hqv.out] at h; exact h, blk_rng HX3.out.drew⟩⟩
  refine wp_region_held_drew (S := fun wx => wx.cell? ⟨d, 5, none⟩ = some (.slice (some ⟨gq, 0, none⟩) g.queue.length qc) ∧ wx.rangeAt w.heap.size 0 (bytesA 32 x.f).toList) (by kernel_rfl) (hS0.out) (fun hHeld => ?_)
  refine tkS (i := 0) (oi := ⟨some 15, Op.move (Operand.tmp 0), 133, _, _, none⟩) (v := .pointer (some ⟨d, 0, none⟩)) rfl (Or.inl ⟨by rfl, fun w hS => by obtain ⟨hS1, hS2⟩ := hS; go_simp⟩) hHeld ?_
  refine tkS (i := 1) (oi := ⟨some 16, Op.nilCheck (Operand.tmp 15), 0, _, _, none⟩) (v := .pointer (some ⟨d, 0, none⟩)) rfl (Or.inl ⟨by rfl, fun w hS => by obtain ⟨hS1, hS2⟩ := hS; go_simp⟩) hHeld ?_
  refine tkS (i := 2) (oi := ⟨some 17, Op.fieldAddr 152 (Operand.tmp 16) 5, 0, _, _, none⟩) (v := .pointer (some ⟨d, 5, none⟩)) rfl (Or.inl ⟨by rfl, fun w hS => by obtain ⟨hS1, hS2⟩ := hS; go_simp⟩) hHeld ?_
  refine tkS (i := 3) (oi := ⟨some 18, Op.load 24 (Operand.tmp 17), 24, _, _, none⟩) (v := .slice (some ⟨gq, 0, none⟩) g.queue.length qc) rfl (Or.inl ⟨by rfl, fun w hS => by obtain ⟨hS1, hS2⟩ := hS; go_simp⟩) hHeld ?_
  refine tkS (i := 4) (oi := ⟨some 19, Op.load 36 (Operand.tmp 3), 36, _, _, none⟩) (v := .agg (bytesA 32 x.f)) rfl (yieldsIf_ld (by rfl) (Operand.tmp 3) 36 rfl w.heap.size 0 rfl (bytesA 32 x.f) _ Tryz.underlying36 rfl (size36A _) fun w hS => hS.2) hHeld ?_
  refine wpAnyH_ready (rs := [5]) (by kernel_rfl) (by simp) ?_
  refine AllReadyH.cons (o := ⟨some 20, Op.call { callee := Callee.value (Operand.func 172), args := #[Operand.tmp 18, Operand.tmp 19], argTypes := #[24, 36] }, 3, _, _, none⟩) rfl (fun K hK => ?_) AllReadyH.nil
  rw [if_pos (by rfl)]
  have hix := index_any _ g.queue x w3.drew (Hqv.out ▸ (HD3.out.drew.oq.row : HRow w3.drew g.qv g.queue)) (by have := HQl.out; omega)
  rw [Hi.out.2] at hix
  refine wp_callF 172 _ _ rfl Tryz.in172 #[.slice (some ⟨gq, 0, none⟩) g.queue.length qc, .agg (bytesA 32 x.f)] (by simp [Act.eval]) (fun u wx => u = .int .i64 (i : Int) ∧ Below w3.drew.heap.size w3.drew wx) (hix.mono fun e w' h => ⟨_, h.1, rfl, h.2⟩) ?_
  clear hix
  rintro _ w4 ⟨rfl, hb4⟩
  have B4 : Keep (Below w3.heap.size w3 w4) := ⟨belowT (Below.refl _ w3).drew hb4⟩
  have HX4 := Keep.mk (HX3.out.below B4.out HX3.out.lt)
  have HD4 := Keep.mk (HD3.out.below B4.out)
  have G4 : Keep (Grown w w4 (DgS d g)) := ⟨G3.out.trans (Grown.below B4.out)⟩
  have c5 : w4.cell? ⟨d, 5, none⟩ = some (.slice (some ⟨gq, 0, none⟩) g.queue.length qc) := by have h := HD4.out.blk.c 5 (by rfl : (dgA { g with wait := g.wait.eraseP (isV x) })[5]? = some g.qv); rw [Hqv.out] at h; exact h
  refine hK _ _ ⟨c5, blk_rng HX4.out⟩ fun hH1 => ?_
  have hwi : IntKind.i64.wrap ((i : Int) + 1) = ((i + 1 : Nat) : Int) := by rw [IntKind.wrap_i64]; have := Hi.out.1; have := HQl.out; omega
  clear hK hb4 hS0 HX3 HD3 B4
  simp only [Act.put, pqA, pqB, pqC]
  refine tkS (i := 6) (oi := ⟨some 5, Op.assign (Operand.tmp 20), 3, _, _, none⟩) (v := .int .i64 (i : Int)) rfl (Or.inl ⟨by rfl, fun w hS => by obtain ⟨hS1, hS2⟩ := hS; go_simp⟩) hH1 ?_
  refine wpAnyH_done (by kernel_rfl) ?_ _
  refine hK5 _ _ ?_
  refine wp_seq_k fun K6 hK6 => rgn ?_
  refine VlS (.pointer (some ⟨d, 0, none⟩)) ?_
  refine VlS (.pointer (some ⟨d, 0, none⟩)) ?_
  refine VlS (.pointer (some ⟨d, 0, none⟩)) ?_
  refine VlS (.pointer (some ⟨d, 5, none⟩)) ?_
  refine VlS (.slice (some ⟨gq, 0, none⟩) g.queue.length qc) ?_
  refine VlS (.int .i64 (i : Int)) ?_
  refine VlS (.int .i64 (i : Int)) ?_
  refine VlS (.int .i64 ((i + 1 : Nat) : Int)) ?_
  clear c5 hwi
  refine WL.callF (by kernel_rfl) 173 _ _ rfl Tryz.in173 #[.slice (some ⟨gq, 0, none⟩) g.queue.length qc, .int .i64 (i : Int), .int .i64 ((i + 1 : Nat) : Int)] (by simp [Act.eval]) ?_
  refine (del_one gq qc i g.queue w4 (Hqv.out ▸ (HD4.out.oq : OwnH w4 g.qv g.queue)) Hi.out.1 Hqc.out.1 Hqc.out.2 (by have := HQl.out; omega)).mono ?_
  rintro e w5 ⟨n5, rfl, ho5, hg5⟩
  refine ⟨_, rfl, ?_⟩
  have HO5 := Keep.mk ho5
  have HG5 : Keep (Grown w4 w5 fun k => g.qv.ownBlock = some k) := ⟨hg5.mono fun k _ e => by rw [Hqv.out, e]; rfl⟩
  have HB5 := Keep.mk (HG5.out.blk HD4.out.blk fun e => HD4.out.dty HD4.out.oq e rfl)
  clear ho5 hg5
  simp only [Act.put, pqA, pqB, pqC]
  refine VlS (.pointer (some ⟨d, 0, none⟩)) ?_
  refine VlS (.pointer (some ⟨d, 5, none⟩)) ?_
  have f_o := HB5.out.frozen 5
  have c_o : w5.cell? ⟨d, 5, none⟩ = some (.slice (some ⟨gq, 0, none⟩) g.queue.length qc) := by have h := HB5.out.c 5 (by rfl : (dgA { g with wait := g.wait.eraseP (isV x) })[5]? = some g.qv); rw [Hqv.out] at h; exact h
  refine WL.cell (by kernel_rfl) (w5.setCell ⟨d, 5, none⟩ (.slice (some ⟨gq, 0, none⟩) n5 qc)) (by go_simp) ?_
  clear f_o c_o
  have HM5 : Keep (Moved w4 g.qv (.slice (some ⟨gq, 0, none⟩) n5 qc)) := ⟨.inl (by rw [Hqv.out]; rfl)⟩
  have HD6 := Keep.mk (HD4.out.setQ HO5.out HG5.out HM5.out)
  have G6 : Keep (Grown w (w5.setCell ⟨d, 5, none⟩ (.slice (some ⟨gq, 0, none⟩) n5 qc)) (DgS d g)) := ⟨(G4.out.next HG5.out fun i _ e => .inr (.inr (.inr (.inr (.inr e))))).next (Grown.setCell w5 d 5 _ (S := fun k => k = d) fun _ => rfl) fun i _ e => .inl e⟩
  generalize w5.setCell ⟨d, 5, none⟩ (.slice (some ⟨gq, 0, none⟩) n5 qc) = w6 at *
  simp only [Act.put]
  refine WL.nil (hK6 _ _ ?_)
  refine wp_seq_k fun K7 hK7 => rgn ?_
  refine VbT ?_
  refine WL.nil (hK7 _ _ ?_)
  refine wp_ret ?_
  go_ret
  refine .inr ⟨by rw [Hfb.out]; exact h1_3, rfl, i, Hi.out.1, Hi.out.2, _, ⟨HD6.out.avInto (fun k hk => hk.elim .inl (HD6.out.av k)) (fun k hk => .inr hk), G6.out, fun k hk => (DagAt.setQS (g := { g with wait := g.wait.eraseP (isV x) }) (w := w4) HM5.out hk).imp id fun h => Nat.le_trans G4.out.size h⟩, rfl, rfl, rfl, rfl, rfl, rfl⟩
 ·skip
  refine VbT ?_
  refine WL.nil (hK3 _ _ ?_)
  refine wp_cond_true rfl ?_
  refine wp_seq_k fun K8 hK8 => rgn ?_
  refine VbF ?_
  refine WL.nil (hK8 _ _ ?_)
  refine wp_ret ?_
  go_ret
  refine .inl ⟨by rw [Hfb.out]; simpa using h1_3, rfl, LB2.out⟩
theorem Ste.refl {w w' : World} {Av : Nat → Prop} {d : Nat} {g : DG} (h : DagAt w Av d g) (hb : Below w.heap.size w w') : Ste w w' Av d g g :=
 ⟨(h.below hb).avInto (fun k hk => hk.elim id (h.av k)) fun k hk => .inr hk, Grown.below hb, fun k hk => .inl hk⟩
theorem Ste.more {w w1 w2 : World} {Av : Nat → Prop} {d : Nat} {g g1 : DG} (h : Ste w w1 Av d g g1) (hb : Below w1.heap.size w1 w2) : Ste w w2 Av d g g1 :=
 ⟨h.at'.below hb, h.grown.trans (Grown.below hb), h.sub⟩
theorem hasB_head (v : VX) (r : List VX) : hasB (v :: r) v.id = true := by simp [hasB, List.find?_cons, isV]
theorem erase_head (v : VX) (r : List VX) : (v :: r).eraseP (isV v.id) = r := by simp [List.eraseP_cons, isV]
theorem ix_head (x : Hs) (r : List Hs) : ixF x (x :: r) 0 = ((0 : Nat) : Int) := by simp [ixF]
end Go.Proofs.YthlohkgdmfkpeaaGreat
