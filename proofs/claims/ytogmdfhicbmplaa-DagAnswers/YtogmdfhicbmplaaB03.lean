import Derived.Test.YtogmdfhicbmplaaB02
import Derived.Deep.DeepAppendRoom
namespace Go.Proofs.Ytogmdfhicbmplaa
open Go.RowKit
set_option linter.unusedSimpArgs false
set_option linter.unusedVariables false

theorem Try.in80 (w : World) (vs : Array Value) : (callFunc 80 vs).run Try.prog w = .ok (.enter 80 vs) w := by kernel_rfl
theorem Try.in85 (w : World) (vs : Array Value) : (callFunc 85 vs).run Try.prog w = .ok (.enter 85 vs) w := by kernel_rfl
theorem Try.in86 (w : World) (vs : Array Value) : (callFunc 86 vs).run Try.prog w = .ok (.enter 86 vs) w := by kernel_rfl
theorem WL.slr {ops : Array Oper} {rest : List Oper} {o : Oper} {a : Act} {w : World} {Q : Exit → Act → World → Prop} (hw : Region.wanted o (yielded ops a.tmps) = true) (t : TypeId) (x : Operand) (lo hi : Option Operand) (ho : o.op = .slice t x lo hi none)
  (vx : Value) (vlo vhi : Option Value) (vs : Value) (hx : a.eval x = vx) (hl : lo.map a.eval = vlo) (hh : hi.map a.eval = vhi) (hr : (Instr.sliceAt t vx vlo vhi none).run Try.prog w = .ok vs w) (h : WL Try.prog ops Q rest (a.put o.dst vs) w) : WL Try.prog ops Q (o :: rest) a w :=
 WL.val hw vs (by unfold execOp; simp only [ho, hx, hl, hh, Option.map_none, Sem.run_bind, hr, Result.andThen_ok, Sem.run_pure]) h
theorem Try.elem37 : Try.prog.elem 37 = 36 := by kernel_rfl
theorem slH_u : Try.prog.underlying 37 = some (.slice (Try.prog.elem 37)) := by rw [Try.elem37]; exact Try.underlying37
theorem slH_l (a : Option Addr) (n c i : Nat) (hi : i ≤ n) (w : World) : (Instr.sliceAt 37 (.slice a n c) (some (.int .i64 (i : Int))) none none).run Try.prog w = .ok (sliced a i n c 32) w := by
 have h1 := run_slice_l (P := Try.prog) (w := w) 37 a n c slH_u .i64 (i : Int) (by omega) (by omega)
 have h2 := run_sliceAt_slice (P := Try.prog) (w := w) 37 (.slice a n c) (some (.int .i64 (i : Int))) none none slH_u
 rw [h2, h1, Try.elem37, Try.sizeOf36, Result.andThen_ok, Int.toNat_natCast]
theorem slH_h (a : Option Addr) (n c i : Nat) (hi : i ≤ c) (w : World) : (Instr.sliceAt 37 (.slice a n c) none (some (.int .i64 (i : Int))) none).run Try.prog w = .ok (.slice a i c) w := by
 have h1 := run_slice_h (P := Try.prog) (w := w) 37 a n c slH_u .i64 (i : Int) (by omega) (by omega)
 have h2 := run_sliceAt_slice (P := Try.prog) (w := w) 37 (.slice a n c) none (some (.int .i64 (i : Int))) none slH_u
 rw [h2, h1, Try.elem37, Try.sizeOf36, Result.andThen_ok, Int.toNat_natCast]
 have h4 : (if c = 0 then a else a.map (·.add (0 * 32))) = a := by
  split
  ·rfl
  ·cases a <;> rfl
 unfold sliced
 rw [h4, Nat.sub_zero, Nat.sub_zero]
theorem wp_callV {P : Program} {Q : Exit → Act → World → Prop} {o : Oper} {a : Act} {w : World} {K : Act → World → Prop} (f : FuncId) (x : Operand) (args : Array Operand) (ts : Array TypeId) (ho : o.op = .call { callee := .value x, args := args, argTypes := ts }) (hx : a.eval x = .func (.func f) #[] #[])
  (hf : ∀ (w : World) (vs : Array Value), (callFunc f vs).run P w = .ok (.enter f vs) w)
  (vs : Array Value) (hvs : args.map a.eval = vs)
  (R : Value → World → Prop) (hc : Calls P f vs w fun e w' => ∃ v, e = .returned v ∧ R v w')
  (h : ∀ v w', R v w' → K (a.put o.dst v) w') : o.wp P a w K Q := by
 unfold Oper.wp
 rw [run_callV a o f x args ts ho hx hf w, Oper.upon_enter, hvs]
 refine hc.mono ?_
 rintro e w' ⟨v, rfl, hr⟩
 exact h v w' hr
theorem cmp_any (x y : Hs) (w : World) : Calls Try.prog 86 #[.agg (bytesA 32 x.f), .agg (bytesA 32 y.f)] w fun e w' => ∃ v, e = .returned v ∧ (v = .int .i64 (cf x y) ∧ Below w.heap.size w w') := by
 refine (compare_any x y w).mono ?_
 rintro e w' ⟨h1, q, os, rfl⟩
 exact ⟨_, h1, rfl, grown_below w q os⟩
set_option maxRecDepth 8000 in
theorem ins_end (v : Value) (l : List Hs) (gx : Nat) (y : Hs) (w : World) (hO : OwnH w v l) (hG : Blk w gx 36 (bytesA 32 y.f)) (hL : l.length ≤ 1000000000000) : Calls Try.prog 80 #[v, .int .i64 (l.length : Int), .slice (some ⟨gx, 0, none⟩) 1 1] w fun e w' => ∃ v', e = .returned v' ∧ OwnH w' v' (l ++ [y]) ∧ (Grown w w' fun k => v.ownBlock = some k) ∧ Moved w v v' := by
 obtain ⟨pa, pc, rfl⟩ := hO.sl
 have HO := Keep.mk hO
 have HG := Keep.mk hG
 have HL := Keep.mk hL
 clear hO hG hL
 go_enter Try.func80, Try.ntmps80
 refine wp_seq_k fun K1 hK1 => rgn ?_
 refine VlS (.slice none 0 0) ?_
 refine WL.nil (hK1 _ _ ?_)
 refine wp_seq_k fun K2 hK2 => rgn ?_
 refine VlS (.slice pa l.length pc) ?_
 refine VlS (.int .i64 (l.length : Int)) ?_
 refine WL.slr (by kernel_rfl) 37 (.tmp 10) (some (.tmp 11)) none rfl _ (some (.int .i64 (l.length : Int))) none (sliced pa l.length l.length pc 32) rfl rfl rfl (slH_l pa l.length pc l.length (Nat.le_refl _) w) ?_
 simp only [Act.put, pqA, pqB, pqC]
 refine WL.nil (hK2 _ _ ?_)
 refine wp_seq_k fun K3 hK3 => rgn ?_
 refine VlS (.slice (some ⟨gx, 0, none⟩) 1 1) ?_
 refine VlS (.int .i64 1) ?_
 refine VlS (.int .i64 1) ?_
 refine WL.nil (hK3 _ _ ?_)
 refine wp_seq_k fun K4 hK4 => ?_
 refine wp_seq_k fun K5 hK5 => rgn ?_
 refine VlS (.int .i64 1) ?_
 refine VlS (.bool false) ?_
 refine WL.nil (hK5 _ _ ?_)
 refine wp_cond_false rfl ?_
 refine wp_skip ?_
 refine hK4 _ _ ?_
 refine wp_seq_k fun K6 hK6 => rgn ?_
 refine VlS (.slice pa l.length pc) ?_
 refine VlS (.int .i64 (l.length : Int)) ?_
 refine VlS (.int .i64 (l.length : Int)) ?_
 refine WL.nil (hK6 _ _ ?_)
 refine wp_seq_k fun K7 hK7 => ?_
 refine wp_seq_k fun K8 hK8 => rgn ?_
 refine VlS (.int .i64 (l.length : Int)) ?_
 refine VlS (.int .i64 (l.length : Int)) ?_
 refine VlS (.bool true) ?_
 refine WL.nil (hK8 _ _ ?_)
 refine wp_cond_true rfl ?_
 refine wp_seq_k fun K9 hK9 => rgn ?_
 refine VlS (.slice pa l.length pc) ?_
 refine VlS (.slice (some ⟨gx, 0, none⟩) 1 1) ?_
 refine WL.appH (by kernel_rfl) (.tmp 23) (.tmp 24) rfl _ l gx y rfl rfl HO.out HG.out (by have := HL.out; omega) fun v1 w1 h1 h2 h3 => ?_
 have H1 := Keep.mk h1
 have H2 := Keep.mk h2
 have H3 := Keep.mk h3
 clear h1 h2 h3
 simp only [Act.put, pqA, pqB, pqC]
 refine VlS (v1) ?_
 refine WL.nil (hK9 _ _ ?_)
 refine wp_ret ?_
 go_ret
 exact ⟨_, rfl, H1.out, H2.out, H3.out⟩
/-- They rise. -/
def Inc (l : List Hs) : Prop := ∀ i j, i < j → j < l.length → Lt (l.getD i default) (l.getD j default)
theorem yieldsIf_ldE {ops : Array Oper} {S : World → Prop} {op : Oper} {a : Act} (hw : Region.wanted op (yielded ops a.tmps) = true) (x : Operand) (ho : op.op = .load 36 x) (b o : Nat) (hx : a.eval x = .pointer (some ⟨b, o, none⟩)) (h : Hs) (hS : ∀ w, S w → w.rangeAt b o (encH h)) : YieldsIf Try.prog ops S op (.agg (bytesA 32 h.f)) a := by
 have h1 := yieldsIf_load_mid (P := Try.prog) (ops := ops) (S := S) (op := op) (a := a) hw 36 x ho b o hx (encH h) _ hS Try.underlying36 rfl (Try.size36L h)
 rw [encH_arr] at h1
 exact h1
theorem rangeAt_ltE {w : World} {b o : Nat} {h : Hs} (hr : w.rangeAt b o (encH h)) : b < w.heap.size := cell_lt (hr 0 _ (encH_get h 0 (by omega)))
set_option maxRecDepth 8000 in
set_option maxHeartbeats 1000000 in
theorem bsearch_any (v : Value) (l : List Hs) (x : Hs) (w : World) (hr : HRow w v l) (hI : Inc l) (hL : l.length ≤ 4398046511104) : Calls Try.prog 85 #[v, .agg (bytesA 32 x.f), .func (.func 86) #[] #[]] w fun e w' => ∃ (i : Nat) (fd : Bool), e = .returned (.tuple #[.int .i64 (i : Int), .bool fd]) ∧ i ≤ l.length ∧ (∀ k, k < i → Lt (l.getD k default) x) ∧ (∀ k, i ≤ k → k < l.length → ¬ Lt (l.getD k default) x) ∧ (fd = true ↔ i < l.length ∧ l.getD i default = x) ∧ Below w.heap.size w w' := by
 obtain ⟨pa, pc, rfl⟩ := hr.form
 have HR := Keep.mk hr
 have HI := Keep.mk hI
 have HL := Keep.mk hL
 clear hr hI hL
 go_enter Try.func85, Try.ntmps85
 refine wp_seq_k fun K1 hK1 => rgn ?_
 refine WL.box (by kernel_rfl) 36 (.tmp 1) rfl (bytesA 32 x.f) rfl ?_
 obtain ⟨w1, hwn⟩ : ∃ wx, Keep (wx = w.alloc (.cells (bytesA 32 x.f) 36)) := ⟨_, ⟨rfl⟩⟩
 rw [← hwn.out]
 have HX1 : Keep (Blk w1 w.heap.size 36 (bytesA 32 x.f)) := ⟨by rw [hwn.out]; exact Blk.new _ _ _⟩
 have LB1 : Keep (Below w.heap.size w w1) := ⟨by rw [hwn.out]; exact below_new _ _⟩
 clear hwn
 simp only [Act.put, pqA, pqB, pqC]
 refine VlS (.int .i64 0) ?_
 refine VlS (.bool false) ?_
 refine WL.nil (hK1 _ _ ?_)
 refine wp_seq_k fun K2 hK2 => ?_
 have HR1 := Keep.mk (HR.out.below LB1.out)
 refine rgn ?_
 refine VlS (.slice pa l.length pc) ?_
 refine VlS (.int .i64 (l.length : Int)) ?_
 refine VlS (.int .i64 (l.length : Int)) ?_
 refine WL.nil (hK2 _ _ ?_)
 refine wp_seq_k fun K3 hK3 => rgn ?_
 refine VlS (.int .i64 (l.length : Int)) ?_
 refine VlS (.int .i64 0) ?_
 refine VlS (.int .i64 (l.length : Int)) ?_
 refine WL.nil (hK3 _ _ ?_)
 refine wp_seq_k fun K4 hK4 => ?_
 refine wp_block ?_
 refine wp_loop (fun ac wr => ∃ (t : Nat) (u11 u15 u16 u17 u18 u19 u20 u21 u22 u23 u24 u25 u26 u27 u28 u29 u30 u31 u32 u33 u34 : Value) (i j : Nat), ac = { tmps := #[.slice pa l.length pc, .agg (bytesA 32 x.f), .func (.func 86) #[] #[], undef, .pointer (some ⟨w.heap.size, 0, none⟩), undef, .int .i64 0, .bool false, .int .i64 (l.length : Int), .int .i64 (i : Int), .int .i64 (j : Int), u11, .slice pa l.length pc, .int .i64 (l.length : Int), .int .i64 (l.length : Int), u15, u16, u17, u18, u19, u20, u21, u22, u23, u24, u25, u26, u27, u28, u29, u30, u31, u32, u33, u34, undef, undef, undef, undef, undef, undef, undef, undef, undef, undef, undef, undef, undef, undef], defers := [] } ∧ i ≤ j ∧ j ≤ l.length ∧ (∀ k, k < i → Lt (l.getD k default) x) ∧ (∀ k, j ≤ k → k < l.length → ¬ Lt (l.getD k default) x) ∧ Below w1.heap.size w1 wr) (fun a _ => (intOf (a.tmps.getD 10 undef) - intOf (a.tmps.getD 9 undef)).toNat) ⟨0, undef, undef, undef, undef, undef, undef, undef, undef, undef, undef, undef, undef, undef, undef, undef, undef, undef, undef, undef, undef, undef, 0, l.length, rfl, by omega, by omega, (fun k hk => by omega), (fun k hk hk2 => by omega), Below.refl _ _⟩ ?_
 rintro ac wr ⟨t, u11, u15, u16, u17, u18, u19, u20, u21, u22, u23, u24, u25, u26, u27, u28, u29, u30, u31, u32, u33, u34, i, j, rfl, hi1, hi2, hA, hC, hB⟩
 have JA := Keep.mk hA
 have JC := Keep.mk hC
 have JB := Keep.mk hB
 clear hA hC hB
 have HRr := Keep.mk (HR1.out.below JB.out)
 have HXr := Keep.mk (HX1.out.below JB.out HX1.out.lt)
 by_cases hij : i < j
 ·have hij' : (i : Int) < (j : Int) := by omega
  have hll := HL.out
  obtain ⟨m, hm⟩ : ∃ m, m = (i + j) / 2 := ⟨_, rfl⟩
  have hmi : i ≤ m := by omega
  have hmj : m < j := by omega
  have hw1 : IntKind.i64.wrap ((i : Int) + (j : Int)) = (i : Int) + (j : Int) := by rw [IntKind.wrap_i64]; omega
  have hw2 : IntKind.u64.wrap ((i : Int) + (j : Int)) = (i : Int) + (j : Int) := by rw [IntKind.wrap_u64]; omega
  have hw3 : ((i : Int) + (j : Int)) / 2 = (m : Int) := by omega
  have hw4 : IntKind.i64.wrap (m : Int) = (m : Int) := by rw [IntKind.wrap_i64]; omega
  have hw5 : IntKind.i64.wrap ((m : Int) + 1) = (m : Int) + 1 := by rw [IntKind.wrap_i64]; omega
  have hml : m < l.length := by omega
  have hml' : (m : Int) < (l.length : Int) := by omega
  obtain ⟨gp, op, hpa, hlen, hcap, hrg⟩ := (HRr.out).at (by omega)
  have hel := rangeAt_elem hrg m hml
  obtain ⟨hh, hhh⟩ : ∃ hh, hh = l[m] := ⟨_, rfl⟩
  rw [← hhh] at hel
  have Jhh := Keep.mk hhh
  have Hel := Keep.mk hel
  subst hpa
  clear hlen hcap hrg hhh hel hm
  refine wp_seq_k fun K5 hK5 => ?_
  refine wp_seq_k fun K6 hK6 => rgn ?_
  refine VlS (.int .i64 (i : Int)) ?_
  refine VlS (.int .i64 (j : Int)) ?_
  refine VlS (.bool true) ?_
  refine WL.nil (hK6 _ _ ?_)
  refine wp_cond_true rfl ?_
  refine wp_skip ?_
  refine hK5 _ _ ?_
  refine wp_block ?_
  refine wp_seq_k fun K7 hK7 => rgn ?_
  refine VlS (.int .i64 (i : Int)) ?_
  refine VlS (.int .i64 (j : Int)) ?_
  refine VlS (.int .i64 ((i : Int) + (j : Int))) ?_
  refine VlS (.int .u64 ((i : Int) + (j : Int))) ?_
  refine VlS (.int .u64 (m : Int)) ?_
  refine VlS (.int .i64 (m : Int)) ?_
  refine VlS (.int .i64 (m : Int)) ?_
  refine WL.nil (hK7 _ _ ?_)
  refine wp_seq_k fun K8 hK8 => ?_
  have hS0 : Keep ((fun wx => wx.rangeAt gp (op + m * 32) (encH hh) ∧ wx.rangeAt w.heap.size 0 (bytesA 32 x.f).toList) wr.drew) := ⟨⟨rangeAt_drew Hel.out, blk_rng HXr.out.drew⟩⟩
  clear hw1 hw2 hw3 hw4
  obtain ⟨cb, hcb⟩ : ∃ b, decide (cf hh x < 0) = b := ⟨_, rfl⟩
  have Hcb := Keep.mk hcb
  refine wp_region_held_drew (S := fun wx => wx.rangeAt gp (op + m * 32) (encH hh) ∧ wx.rangeAt w.heap.size 0 (bytesA 32 x.f).toList) (by kernel_rfl) (hS0.out) (fun hHeld => ?_)
  refine tkS (i := 0) (oi := ⟨some 24, Op.move (Operand.tmp 2), 84, _, _, none⟩) (v := .func (.func 86) #[] #[]) rfl (Or.inl ⟨by rfl, fun w hS => by clear hS; go_simp⟩) hHeld ?_
  refine tkS (i := 1) (oi := ⟨some 25, Op.move (Operand.tmp 0), 37, _, _, none⟩) (v := .slice (some ⟨gp, op, none⟩) l.length pc) rfl (Or.inl ⟨by rfl, fun w hS => by clear hS; go_simp⟩) hHeld ?_
  refine tkS (i := 2) (oi := ⟨some 26, Op.move (Operand.tmp 11), 3, _, _, none⟩) (v := .int .i64 (m : Int)) rfl (Or.inl ⟨by rfl, fun w hS => by clear hS; go_simp⟩) hHeld ?_
  refine tkS (i := 3) (oi := ⟨some 27, Op.indexAddr 37 (Operand.tmp 25) (Operand.tmp 26), 0, _, _, none⟩) (v := .pointer (some ⟨gp, op + m * 32, none⟩)) rfl (Or.inl ⟨by rfl, fun w hS => by go_simp⟩) hHeld ?_
  refine tkS (i := 4) (oi := ⟨some 28, Op.load 36 (Operand.tmp 27), 36, _, _, none⟩) (v := .agg (bytesA 32 hh.f)) rfl (yieldsIf_ldE (by rfl) (Operand.tmp 27) rfl gp (op + m * 32) rfl hh fun w hS => hS.1) hHeld ?_
  refine tkS (i := 5) (oi := ⟨some 29, Op.load 36 (Operand.tmp 4), 36, _, _, none⟩) (v := .agg (bytesA 32 x.f)) rfl (yieldsIf_ld (by rfl) (Operand.tmp 4) 36 rfl w.heap.size 0 rfl (bytesA 32 x.f) _ Try.underlying36 rfl (size36A _) fun w hS => hS.2) hHeld ?_
  refine wpAnyH_ready (rs := [6]) (by kernel_rfl) (by simp) ?_
  refine AllReadyH.cons (o := ⟨some 30, Op.call { callee := Callee.value (Operand.tmp 24), args := #[Operand.tmp 28, Operand.tmp 29], argTypes := #[36, 36] }, 3, _, _, none⟩) rfl (fun K hK => ?_) AllReadyH.nil
  rw [if_pos (by rfl)]
  refine wp_callV 86 (Operand.tmp 24) _ _ rfl rfl Try.in86 #[.agg (bytesA 32 hh.f), .agg (bytesA 32 x.f)] (by simp [Act.eval]) _ (cmp_any hh x _) ?_
  rintro vq wq ⟨rfl, hq⟩
  have BQ : Keep (Below wr.heap.size wr wq) := ⟨belowT (Below.refl _ wr).drew hq⟩
  refine hK _ _ ⟨rangeAt_below hS0.out.1 hq (rangeAt_ltE hS0.out.1), rangeAt_below hS0.out.2 hq HXr.out.lt⟩ fun hH1 => ?_
  clear hK hq
  simp only [Act.put, pqA, pqB, pqC]
  refine tkS (i := 7) (oi := ⟨some 31, Op.binOp BinOp.lss 3 (Operand.tmp 30) (Operand.const (Value.int IntKind.i64 0)) 3, 4, _, _, none⟩) (v := .bool cb) rfl (Or.inl ⟨by rfl, fun w hS => by clear hS; go_simp⟩) hH1 ?_
  refine wpAnyH_done (by kernel_rfl) ?_ _
  refine hK8 _ _ ?_
  rcases Bool.eq_false_or_eq_true cb with hcq | hcq
  ·subst hcq
   refine wp_cond_true rfl ?_
   refine rgn ?_
   refine VlS (.int .i64 (m : Int)) ?_
   refine VlS (.int .i64 ((m : Int) + 1)) ?_
   refine VlS (.int .i64 ((m : Int) + 1)) ?_
   refine WL.nil ?_
   have h00 : cf hh x < 0 := of_decide_eq_true hcb
   have hlt : Lt hh x := h00
   refine ⟨⟨0, .int .i64 (m : Int), .int .i64 (i : Int), .int .i64 (j : Int), .bool true, .int .i64 (i : Int), .int .i64 (j : Int), .int .i64 ((i : Int) + (j : Int)), .int .u64 ((i : Int) + (j : Int)), .int .u64 (m : Int), .int .i64 (m : Int), .func (.func 86) #[] #[], .slice (some ⟨gp, op, none⟩) l.length pc, .int .i64 (m : Int), .pointer (some ⟨gp, op + m * 32, none⟩), .agg (bytesA 32 hh.f), .agg (bytesA 32 x.f), .int .i64 (cf hh x), .bool true, .int .i64 (m : Int), .int .i64 ((m : Int) + 1), u34, m + 1, j, rfl, by omega, by omega, fun k hk => ?_, JC.out, belowT JB.out BQ.out⟩, ?_⟩
   ·by_cases e : k = m
    ·subst e; rw [List.getD_eq_getElem?_getD, List.getElem?_eq_getElem hml, Option.getD_some, ← Jhh.out]; exact hlt
    ·refine Lt.trans (HI.out k m (by omega) hml) ?_
     rw [List.getD_eq_getElem?_getD, List.getElem?_eq_getElem hml, Option.getD_some, ← Jhh.out]; exact hlt
   ·simp only [intOf]; show ((j : Int) - ((m : Int) + 1)).toNat < ((j : Int) - (i : Int)).toNat; omega
  ·subst hcq
   refine wp_cond_false rfl ?_
   refine rgn ?_
   refine VlS (.int .i64 (m : Int)) ?_
   refine VlS (.int .i64 (m : Int)) ?_
   refine WL.nil ?_
   have h00 : ¬ cf hh x < 0 := of_decide_eq_false hcb
   have hlt : ¬ Lt hh x := h00
   refine ⟨⟨0, .int .i64 (m : Int), .int .i64 (i : Int), .int .i64 (j : Int), .bool true, .int .i64 (i : Int), .int .i64 (j : Int), .int .i64 ((i : Int) + (j : Int)), .int .u64 ((i : Int) + (j : Int)), .int .u64 (m : Int), .int .i64 (m : Int), .func (.func 86) #[] #[], .slice (some ⟨gp, op, none⟩) l.length pc, .int .i64 (m : Int), .pointer (some ⟨gp, op + m * 32, none⟩), .agg (bytesA 32 hh.f), .agg (bytesA 32 x.f), .int .i64 (cf hh x), .bool false, u32, u33, .int .i64 (m : Int), i, m, rfl, by omega, by omega, JA.out, fun k hk hkl h => ?_, belowT JB.out BQ.out⟩, ?_⟩
   ·refine hlt ?_
    by_cases e : k = m
    ·subst e; rw [List.getD_eq_getElem?_getD, List.getElem?_eq_getElem hml, Option.getD_some, ← Jhh.out] at h; exact h
    ·have h2 := HI.out m k (by omega) hkl
     rw [List.getD_eq_getElem?_getD, List.getElem?_eq_getElem hml, Option.getD_some, ← Jhh.out] at h2
     exact h2.trans h
   ·simp only [intOf]; show ((m : Int) - (i : Int)).toNat < ((j : Int) - (i : Int)).toNat; omega
 ·obtain rfl : i = j := by omega
  have hij' : ¬ (i : Int) < (i : Int) := by omega
  refine wp_seq_k fun K9 hK9 => ?_
  refine wp_seq_k fun K10 hK10 => rgn ?_
  refine VlS (.int .i64 (i : Int)) ?_
  refine VlS (.int .i64 (i : Int)) ?_
  refine VlS (.bool false) ?_
  refine WL.nil (hK10 _ _ ?_)
  refine wp_cond_false rfl ?_
  refine wp_exit ?_
  refine hK4 _ _ ?_
  refine wp_seq_k fun K11 hK11 => ?_
  by_cases hil : i < l.length
  ·have hil' : (i : Int) < (l.length : Int) := by omega
   obtain ⟨gp, op, hpa, hlen, hcap, hrg⟩ := (HRr.out).at (by omega)
   have hel := rangeAt_elem hrg i hil
   obtain ⟨hh, hhh⟩ : ∃ hh, hh = l[i] := ⟨_, rfl⟩
   rw [← hhh] at hel
   have Jhh := Keep.mk hhh
   have Hel := Keep.mk hel
   subst hpa
   clear hlen hcap hrg hhh hel
   have hS0 : Keep ((fun wx => wx.rangeAt gp (op + i * 32) (encH hh) ∧ wx.rangeAt w.heap.size 0 (bytesA 32 x.f).toList) wr.drew) := ⟨⟨rangeAt_drew Hel.out, blk_rng HXr.out.drew⟩⟩
   obtain ⟨cb, hcb⟩ : ∃ b, (cf hh x == 0) = b := ⟨_, rfl⟩
   have Hcb := Keep.mk hcb
   refine wp_region_held_drew (S := fun wx => wx.rangeAt gp (op + i * 32) (encH hh) ∧ wx.rangeAt w.heap.size 0 (bytesA 32 x.f).toList) (by kernel_rfl) (hS0.out) (fun hHeld => ?_)
   refine tkS (i := 0) (oi := ⟨some 35, Op.move (Operand.tmp 9), 3, _, _, none⟩) (v := .int .i64 (i : Int)) rfl (Or.inl ⟨by rfl, fun w hS => by clear hS; go_simp⟩) hHeld ?_
   refine tkS (i := 1) (oi := ⟨some 36, Op.move (Operand.tmp 9), 3, _, _, none⟩) (v := .int .i64 (i : Int)) rfl (Or.inl ⟨by rfl, fun w hS => by clear hS; go_simp⟩) hHeld ?_
   refine tkS (i := 2) (oi := ⟨some 37, Op.move (Operand.tmp 8), 3, _, _, none⟩) (v := .int .i64 (l.length : Int)) rfl (Or.inl ⟨by rfl, fun w hS => by clear hS; go_simp⟩) hHeld ?_
   refine tkS (i := 3) (oi := ⟨some 38, Op.binOp BinOp.lss 3 (Operand.tmp 36) (Operand.tmp 37) 3, 4, _, _, none⟩) (v := .bool true) rfl (Or.inl ⟨by rfl, fun w hS => by clear hS; go_simp⟩) hHeld ?_
   refine tkS (i := 4) (oi := ⟨some 39, Op.move (Operand.tmp 38), 4, _, _, none⟩) (v := .bool true) rfl (Or.inl ⟨by rfl, fun w hS => by clear hS; go_simp⟩) hHeld ?_
   refine tkS (i := 5) (oi := ⟨some 40, Op.move (Operand.tmp 2), 84, _, _, some (4, true)⟩) (v := .func (.func 86) #[] #[]) rfl (Or.inl ⟨by rfl, fun w hS => by clear hS; go_simp⟩) hHeld ?_
   refine tkS (i := 6) (oi := ⟨some 41, Op.move (Operand.tmp 0), 37, _, _, some (4, true)⟩) (v := .slice (some ⟨gp, op, none⟩) l.length pc) rfl (Or.inl ⟨by rfl, fun w hS => by clear hS; go_simp⟩) hHeld ?_
   refine tkS (i := 7) (oi := ⟨some 42, Op.move (Operand.tmp 9), 3, _, _, some (4, true)⟩) (v := .int .i64 (i : Int)) rfl (Or.inl ⟨by rfl, fun w hS => by clear hS; go_simp⟩) hHeld ?_
   refine tkS (i := 8) (oi := ⟨some 43, Op.indexAddr 37 (Operand.tmp 41) (Operand.tmp 42), 0, _, _, some (4, true)⟩) (v := .pointer (some ⟨gp, op + i * 32, none⟩)) rfl (Or.inl ⟨by rfl, fun w hS => by go_simp⟩) hHeld ?_
   refine tkS (i := 9) (oi := ⟨some 44, Op.load 36 (Operand.tmp 43), 36, _, _, some (4, true)⟩) (v := .agg (bytesA 32 hh.f)) rfl (yieldsIf_ldE (by rfl) (Operand.tmp 43) rfl gp (op + i * 32) rfl hh fun w hS => hS.1) hHeld ?_
   refine tkS (i := 10) (oi := ⟨some 45, Op.load 36 (Operand.tmp 4), 36, _, _, some (4, true)⟩) (v := .agg (bytesA 32 x.f)) rfl (yieldsIf_ld (by rfl) (Operand.tmp 4) 36 rfl w.heap.size 0 rfl (bytesA 32 x.f) _ Try.underlying36 rfl (size36A _) fun w hS => hS.2) hHeld ?_
   refine wpAnyH_ready (rs := [11]) (by kernel_rfl) (by simp) ?_
   refine AllReadyH.cons (o := ⟨some 46, Op.call { callee := Callee.value (Operand.tmp 40), args := #[Operand.tmp 44, Operand.tmp 45], argTypes := #[36, 36] }, 3, _, _, some (4, true)⟩) rfl (fun K hK => ?_) AllReadyH.nil
   rw [if_pos (by rfl)]
   refine wp_callV 86 (Operand.tmp 40) _ _ rfl rfl Try.in86 #[.agg (bytesA 32 hh.f), .agg (bytesA 32 x.f)] (by simp [Act.eval]) _ (cmp_any hh x _) ?_
   rintro vq wq ⟨rfl, hq⟩
   have BQ : Keep (Below wr.heap.size wr wq) := ⟨belowT (Below.refl _ wr).drew hq⟩
   refine hK _ _ ⟨rangeAt_below hS0.out.1 hq (rangeAt_ltE hS0.out.1), rangeAt_below hS0.out.2 hq HXr.out.lt⟩ fun hH1 => ?_
   clear hK hq
   simp only [Act.put, pqA, pqB, pqC]
   refine tkS (i := 12) (oi := ⟨some 47, Op.binOp BinOp.eql 3 (Operand.tmp 46) (Operand.const (Value.int IntKind.i64 0)) 3, 4, _, _, some (4, true)⟩) (v := .bool cb) rfl (Or.inl ⟨by rfl, fun w hS => by clear hS; go_simp⟩) hH1 ?_
   refine tkS (i := 13) (oi := ⟨some 48, Op.pick (Operand.tmp 39) (Operand.tmp 47) (Operand.const (Value.bool false)), 4, _, _, none⟩) (v := .bool cb) rfl (Or.inl ⟨by rfl, fun w hS => by clear hS; go_simp⟩) hH1 ?_
   refine tkS (i := 14) (oi := ⟨some 6, Op.assign (Operand.tmp 35), 3, _, _, none⟩) (v := .int .i64 (i : Int)) rfl (Or.inl ⟨by rfl, fun w hS => by clear hS; go_simp⟩) hH1 ?_
   refine tkS (i := 15) (oi := ⟨some 7, Op.assign (Operand.tmp 48), 4, _, _, none⟩) (v := .bool cb) rfl (Or.inl ⟨by rfl, fun w hS => by clear hS; go_simp⟩) hH1 ?_
   refine wpAnyH_done (by kernel_rfl) ?_ _
   refine hK11 _ _ ?_
   refine wp_ret ?_
   go_ret2
   refine ⟨i, cb, rfl, by omega, JA.out, JC.out, ?_, belowT LB1.out (belowT JB.out BQ.out)⟩
   rw [← Hcb.out, beq_iff_eq, cf_zero]
   constructor
   ·intro h; exact ⟨hil, by rw [List.getD_eq_getElem?_getD, List.getElem?_eq_getElem hil, Option.getD_some, ← Jhh.out]; exact h⟩
   ·rintro ⟨_, h⟩; rw [List.getD_eq_getElem?_getD, List.getElem?_eq_getElem hil, Option.getD_some, ← Jhh.out] at h; exact h
  ·have hil' : ¬ (i : Int) < (l.length : Int) := by omega
   refine wp_region_held_drew (S := fun _ => True) (by kernel_rfl) (trivial) (fun hHeld => ?_)
   refine tkS (i := 0) (oi := ⟨some 35, Op.move (Operand.tmp 9), 3, _, _, none⟩) (v := .int .i64 (i : Int)) rfl (Or.inl ⟨by rfl, fun w hS => by go_simp⟩) hHeld ?_
   refine tkS (i := 1) (oi := ⟨some 36, Op.move (Operand.tmp 9), 3, _, _, none⟩) (v := .int .i64 (i : Int)) rfl (Or.inl ⟨by rfl, fun w hS => by go_simp⟩) hHeld ?_
   refine tkS (i := 2) (oi := ⟨some 37, Op.move (Operand.tmp 8), 3, _, _, none⟩) (v := .int .i64 (l.length : Int)) rfl (Or.inl ⟨by rfl, fun w hS => by go_simp⟩) hHeld ?_
   refine tkS (i := 3) (oi := ⟨some 38, Op.binOp BinOp.lss 3 (Operand.tmp 36) (Operand.tmp 37) 3, 4, _, _, none⟩) (v := .bool false) rfl (Or.inl ⟨by rfl, fun w hS => by go_simp⟩) hHeld ?_
   refine tkS (i := 4) (oi := ⟨some 39, Op.move (Operand.tmp 38), 4, _, _, none⟩) (v := .bool false) rfl (Or.inl ⟨by rfl, fun w hS => by go_simp⟩) hHeld ?_
   refine tkS (i := 5) (oi := ⟨some 40, Op.move (Operand.tmp 2), 84, _, _, some (4, true)⟩) (v := undef) rfl (Or.inr ⟨by rfl, rfl⟩) hHeld ?_
   refine tkS (i := 6) (oi := ⟨some 41, Op.move (Operand.tmp 0), 37, _, _, some (4, true)⟩) (v := undef) rfl (Or.inr ⟨by rfl, rfl⟩) hHeld ?_
   refine tkS (i := 7) (oi := ⟨some 42, Op.move (Operand.tmp 9), 3, _, _, some (4, true)⟩) (v := undef) rfl (Or.inr ⟨by rfl, rfl⟩) hHeld ?_
   refine tkS (i := 8) (oi := ⟨some 43, Op.indexAddr 37 (Operand.tmp 41) (Operand.tmp 42), 0, _, _, some (4, true)⟩) (v := undef) rfl (Or.inr ⟨by rfl, rfl⟩) hHeld ?_
   refine tkS (i := 9) (oi := ⟨some 44, Op.load 36 (Operand.tmp 43), 36, _, _, some (4, true)⟩) (v := undef) rfl (Or.inr ⟨by rfl, rfl⟩) hHeld ?_
   refine tkS (i := 10) (oi := ⟨some 45, Op.load 36 (Operand.tmp 4), 36, _, _, some (4, true)⟩) (v := undef) rfl (Or.inr ⟨by rfl, rfl⟩) hHeld ?_
   refine tkS (i := 11) (oi := ⟨some 46, Op.call { callee := Callee.value (Operand.tmp 40), args := #[Operand.tmp 44, Operand.tmp 45], argTypes := #[36, 36] }, 3, _, _, some (4, true)⟩) (v := undef) rfl (Or.inr ⟨by rfl, rfl⟩) hHeld ?_
   refine tkS (i := 12) (oi := ⟨some 47, Op.binOp BinOp.eql 3 (Operand.tmp 46) (Operand.const (Value.int IntKind.i64 0)) 3, 4, _, _, some (4, true)⟩) (v := undef) rfl (Or.inr ⟨by rfl, rfl⟩) hHeld ?_
   refine tkS (i := 13) (oi := ⟨some 48, Op.pick (Operand.tmp 39) (Operand.tmp 47) (Operand.const (Value.bool false)), 4, _, _, none⟩) (v := .bool false) rfl (Or.inl ⟨by rfl, fun w hS => by go_simp⟩) hHeld ?_
   refine tkS (i := 14) (oi := ⟨some 6, Op.assign (Operand.tmp 35), 3, _, _, none⟩) (v := .int .i64 (i : Int)) rfl (Or.inl ⟨by rfl, fun w hS => by go_simp⟩) hHeld ?_
   refine tkS (i := 15) (oi := ⟨some 7, Op.assign (Operand.tmp 48), 4, _, _, none⟩) (v := .bool false) rfl (Or.inl ⟨by rfl, fun w hS => by go_simp⟩) hHeld ?_
   refine wpAnyH_done (by kernel_rfl) ?_ _
   refine hK11 _ _ ?_
   refine wp_ret ?_
   go_ret2
   refine ⟨i, false, rfl, by omega, JA.out, JC.out, ⟨(fun h => by cases h), (fun h => absurd h.1 hil)⟩, belowT LB1.out (belowT JB.out (Below.refl _ _).drew)⟩
end Go.Proofs.Ytogmdfhicbmplaa
namespace Go.Proofs.Ytogmdfhicbmplaa
open Go.RowKit
set_option linter.unusedSimpArgs false
set_option linter.unusedVariables false

theorem Try.in81 (w : World) (vs : Array Value) : (callFunc 81 vs).run Try.prog w = .ok (.enter 81 vs) w := by kernel_rfl
theorem Try.in82 (w : World) (vs : Array Value) : (callFunc 82 vs).run Try.prog w = .ok (.enter 82 vs) w := by kernel_rfl
theorem Try.in93 (w : World) (vs : Array Value) : (callFunc 93 vs).run Try.prog w = .ok (.enter 93 vs) w := by kernel_rfl
theorem MpAt.neT {w : World} {Av : Nat → Prop} {b k : Nat} {l : List VX} {T : TypeId} (h : MpAt w Av b l) (hb : Typ w k T) : k ≠ b := by
 obtain ⟨es, ck, h1, _⟩ := h
 obtain ⟨cs, fz, h2⟩ := hb
 rintro rfl
 rw [h1] at h2
 cases h2
theorem DagAt.dty {w : World} {Av : Nat → Prop} {d : Nat} {g : DG} (h : DagAt w Av d g) {v : Value} {l : List Hs} (hv : OwnH w v l) {k : Nat} (hk : v.ownBlock = some k) : k ≠ d := fun e => by
 subst e; have := (hv.typ hk).one h.blk.typ; revert this; decide
theorem DagAt.setH {w w9 : World} {Av : Nat → Prop} {d : Nat} {g : DG} {v9 : Value} {l9 : List Hs} (h : DagAt w Av d g) (ho : OwnH w9 v9 l9) (hg : Grown w w9 fun k => g.hv.ownBlock = some k) (hm : Moved w g.hv v9) :
  DagAt (w9.setCell ⟨d, 2, none⟩ v9) (fun k => Av k ∨ v9.ownBlock = some k) d { g with hv := v9, heads := l9 } := by
 have hS : ∀ k, g.hv.ownBlock = some k → Av k := fun k hk => h.av k (.inr (.inr (.inr (.inl hk))))
 have fr : ∀ k, v9.ownBlock = some k → g.hv.ownBlock = some k ∨ w.heap.size ≤ k := fun k hk => by
  rcases hm with e | ⟨q, e, hq⟩
  ·left; rw [← e]; exact hk
  ·right; rw [hk] at e; have := Option.some.inj e; omega
 have hA : ∀ k, k < w.heap.size → Av k ∨ v9.ownBlock = some k → Av k := fun k hk e => e.elim id fun e => (fr k e).elim (hS k) fun h2 => by omega
 have G2 : Grown w9 (w9.setCell ⟨d, 2, none⟩ v9) fun k => k = d := Grown.setCell w9 d 2 v9 fun _ => rfl
 have hb9 : Blk w9 d 77 (dgA g) := hg.blk h.blk fun e => h.dty h.oh e rfl
 have hd9 : Av d ∨ v9.ownBlock = some d := .inl (h.av d (.inl rfl))
 refine ⟨hb9.set 2 v9, (h.held.grown hg (fun e => h.held.neT (h.oh.typ e) rfl) (fun k _ e => hS k e) hA).grown G2 (fun e => h.held.ne h.blk e.symm) (fun k _ e => e ▸ hd9) (fun k _ e => e),
  (h.wait.grown hg (fun e => h.wait.neT (h.oh.typ e) rfl) (fun k _ e => hS k e) hA).grown G2 (fun e => h.wait.ne h.blk e.symm) (fun k _ e => e ▸ hd9) (fun k _ e => e),
  (ho.grown G2 fun k hk e => by subst e; have := (ho.typ hk).one hb9.typ; revert this; decide), ((h.oo.grown hg fun k hk e => (fun k hk e => h.ho k e hk) k hk e).grown G2 fun k hk e => h.dty h.oo hk e), ((h.oq.grown hg fun k hk e => (fun k hk e => h.hq k e hk) k hk e).grown G2 fun k hk e => h.dty h.oq hk e), h.mm, (fun k hk e => (fr k hk).elim (fun hs => h.ho k hs e) (fun hn => by have := h.oo.lt k e; omega)), (fun k hk e => (fr k hk).elim (fun hs => h.hq k hs e) (fun hn => by have := h.oq.lt k e; omega)), h.oq', ?_, ?_⟩
 ·rintro k (hk | hk | hk | hk | hk | hk)
  ·exact .inl (h.av k (.inl hk))
  ·exact .inl (h.av k (.inr (.inl hk)))
  ·exact .inl (h.av k (.inr (.inr (.inl hk))))
  ·exact .inr hk
  ·exact .inl (h.av k (.inr (.inr (.inr (.inr (.inl hk))))))
  ·exact .inl (h.av k (.inr (.inr (.inr (.inr (.inr hk))))))
 ·intro k hk
  have hsz := Nat.le_trans hg.size G2.size
  rcases hk with hk | hk
  ·exact Nat.lt_of_lt_of_le (h.lt k hk) hsz
  ·exact Nat.lt_of_lt_of_le (ho.lt k hk) G2.size
theorem DagAt.setO {w w9 : World} {Av : Nat → Prop} {d : Nat} {g : DG} {v9 : Value} {l9 : List Hs} (h : DagAt w Av d g) (ho : OwnH w9 v9 l9) (hg : Grown w w9 fun k => g.ov.ownBlock = some k) (hm : Moved w g.ov v9) :
  DagAt (w9.setCell ⟨d, 3, none⟩ v9) (fun k => Av k ∨ v9.ownBlock = some k) d { g with ov := v9, order := l9 } := by
 have hS : ∀ k, g.ov.ownBlock = some k → Av k := fun k hk => h.av k (.inr (.inr (.inr (.inr (.inl hk)))))
 have fr : ∀ k, v9.ownBlock = some k → g.ov.ownBlock = some k ∨ w.heap.size ≤ k := fun k hk => by
  rcases hm with e | ⟨q, e, hq⟩
  ·left; rw [← e]; exact hk
  ·right; rw [hk] at e; have := Option.some.inj e; omega
 have hA : ∀ k, k < w.heap.size → Av k ∨ v9.ownBlock = some k → Av k := fun k hk e => e.elim id fun e => (fr k e).elim (hS k) fun h2 => by omega
 have G2 : Grown w9 (w9.setCell ⟨d, 3, none⟩ v9) fun k => k = d := Grown.setCell w9 d 3 v9 fun _ => rfl
 have hb9 : Blk w9 d 77 (dgA g) := hg.blk h.blk fun e => h.dty h.oo e rfl
 have hd9 : Av d ∨ v9.ownBlock = some d := .inl (h.av d (.inl rfl))
 refine ⟨hb9.set 3 v9, (h.held.grown hg (fun e => h.held.neT (h.oo.typ e) rfl) (fun k _ e => hS k e) hA).grown G2 (fun e => h.held.ne h.blk e.symm) (fun k _ e => e ▸ hd9) (fun k _ e => e),
  (h.wait.grown hg (fun e => h.wait.neT (h.oo.typ e) rfl) (fun k _ e => hS k e) hA).grown G2 (fun e => h.wait.ne h.blk e.symm) (fun k _ e => e ▸ hd9) (fun k _ e => e),
  ((h.oh.grown hg fun k hk e => h.ho k hk e).grown G2 fun k hk e => h.dty h.oh hk e), (ho.grown G2 fun k hk e => by subst e; have := (ho.typ hk).one hb9.typ; revert this; decide), ((h.oq.grown hg fun k hk e => (fun k hk e => h.oq' k e hk) k hk e).grown G2 fun k hk e => h.dty h.oq hk e), h.mm, (fun k hk e => (fr k e).elim (fun hs => h.ho k hk hs) (fun hn => by have := h.oh.lt k hk; omega)), h.hq, (fun k hk e => (fr k hk).elim (fun hs => h.oq' k hs e) (fun hn => by have := h.oq.lt k e; omega)), ?_, ?_⟩
 ·rintro k (hk | hk | hk | hk | hk | hk)
  ·exact .inl (h.av k (.inl hk))
  ·exact .inl (h.av k (.inr (.inl hk)))
  ·exact .inl (h.av k (.inr (.inr (.inl hk))))
  ·exact .inl (h.av k (.inr (.inr (.inr (.inl hk)))))
  ·exact .inr hk
  ·exact .inl (h.av k (.inr (.inr (.inr (.inr (.inr hk))))))
 ·intro k hk
  have hsz := Nat.le_trans hg.size G2.size
  rcases hk with hk | hk
  ·exact Nat.lt_of_lt_of_le (h.lt k hk) hsz
  ·exact Nat.lt_of_lt_of_le (ho.lt k hk) G2.size
theorem DagAt.setQ {w w9 : World} {Av : Nat → Prop} {d : Nat} {g : DG} {v9 : Value} {l9 : List Hs} (h : DagAt w Av d g) (ho : OwnH w9 v9 l9) (hg : Grown w w9 fun k => g.qv.ownBlock = some k) (hm : Moved w g.qv v9) :
  DagAt (w9.setCell ⟨d, 5, none⟩ v9) (fun k => Av k ∨ v9.ownBlock = some k) d { g with qv := v9, queue := l9 } := by
 have hS : ∀ k, g.qv.ownBlock = some k → Av k := fun k hk => h.av k (.inr (.inr (.inr (.inr (.inr hk)))))
 have fr : ∀ k, v9.ownBlock = some k → g.qv.ownBlock = some k ∨ w.heap.size ≤ k := fun k hk => by
  rcases hm with e | ⟨q, e, hq⟩
  ·left; rw [← e]; exact hk
  ·right; rw [hk] at e; have := Option.some.inj e; omega
 have hA : ∀ k, k < w.heap.size → Av k ∨ v9.ownBlock = some k → Av k := fun k hk e => e.elim id fun e => (fr k e).elim (hS k) fun h2 => by omega
 have G2 : Grown w9 (w9.setCell ⟨d, 5, none⟩ v9) fun k => k = d := Grown.setCell w9 d 5 v9 fun _ => rfl
 have hb9 : Blk w9 d 77 (dgA g) := hg.blk h.blk fun e => h.dty h.oq e rfl
 have hd9 : Av d ∨ v9.ownBlock = some d := .inl (h.av d (.inl rfl))
 refine ⟨hb9.set 5 v9, (h.held.grown hg (fun e => h.held.neT (h.oq.typ e) rfl) (fun k _ e => hS k e) hA).grown G2 (fun e => h.held.ne h.blk e.symm) (fun k _ e => e ▸ hd9) (fun k _ e => e),
  (h.wait.grown hg (fun e => h.wait.neT (h.oq.typ e) rfl) (fun k _ e => hS k e) hA).grown G2 (fun e => h.wait.ne h.blk e.symm) (fun k _ e => e ▸ hd9) (fun k _ e => e),
  ((h.oh.grown hg fun k hk e => h.hq k hk e).grown G2 fun k hk e => h.dty h.oh hk e), ((h.oo.grown hg fun k hk e => h.oq' k hk e).grown G2 fun k hk e => h.dty h.oo hk e), (ho.grown G2 fun k hk e => by subst e; have := (ho.typ hk).one hb9.typ; revert this; decide), h.mm, h.ho, (fun k hk e => (fr k e).elim (fun hs => h.hq k hk hs) (fun hn => by have := h.oh.lt k hk; omega)), (fun k hk e => (fr k e).elim (fun hs => h.oq' k hk hs) (fun hn => by have := h.oo.lt k hk; omega)), ?_, ?_⟩
 ·rintro k (hk | hk | hk | hk | hk | hk)
  ·exact .inl (h.av k (.inl hk))
  ·exact .inl (h.av k (.inr (.inl hk)))
  ·exact .inl (h.av k (.inr (.inr (.inl hk))))
  ·exact .inl (h.av k (.inr (.inr (.inr (.inl hk)))))
  ·exact .inl (h.av k (.inr (.inr (.inr (.inr (.inl hk))))))
  ·exact .inr hk
 ·intro k hk
  have hsz := Nat.le_trans hg.size G2.size
  rcases hk with hk | hk
  ·exact Nat.lt_of_lt_of_le (h.lt k hk) hsz
  ·exact Nat.lt_of_lt_of_le (ho.lt k hk) G2.size
theorem DagAt.setQS {w : World} {d : Nat} {g : DG} {v9 : Value} {l9 : List Hs} (hm : Moved w g.qv v9) {k : Nat} (h : DgS d { g with qv := v9, queue := l9 } k) : DgS d g k ∨ w.heap.size ≤ k := by
 rcases h with hk | hk | hk | hk | hk | hk
 ·exact .inl (.inl hk)
 ·exact .inl (.inr (.inl hk))
 ·exact .inl (.inr (.inr (.inl hk)))
 ·exact .inl (.inr (.inr (.inr (.inl hk))))
 ·exact .inl (.inr (.inr (.inr (.inr (.inl hk)))))
 ·rcases hm with e | ⟨q, e, hq⟩
  ·have hk : v9.ownBlock = some k := hk
   rw [e] at hk; exact .inl (.inr (.inr (.inr (.inr (.inr hk)))))
  ·have hk : v9.ownBlock = some k := hk
   right; rw [hk] at e; have := Option.some.inj e; omega
theorem DagAt.addHeld {w w9 : World} {Av : Nat → Prop} {d : Nat} {g : DG} {l9 : List VX} (h : DagAt w Av d g) (hm : MpAt w9 Av g.hb l9) (hg : Grown w w9 fun k => k = g.hb) : DagAt w9 Av d { g with held := l9 } := by
 have hA : Av g.hb := h.av _ (.inr (.inl rfl))
 have ht : ∀ {v : Value} {l : List Hs}, OwnH w v l → ∀ k, v.ownBlock = some k → ¬ k = g.hb := fun ho k hk e => h.held.neT (ho.typ hk) e
 exact ⟨hg.blk h.blk fun e => h.held.ne h.blk e, hm, h.wait.grown hg (fun e => h.mm e.symm) (fun k _ e => e ▸ hA) fun k _ e => e, h.oh.grown hg (ht h.oh), h.oo.grown hg (ht h.oo), h.oq.grown hg (ht h.oq), h.mm, h.ho, h.hq, h.oq', h.av, fun k hk => Nat.lt_of_lt_of_le (h.lt k hk) hg.size⟩
theorem DagAt.addWait {w w9 : World} {Av : Nat → Prop} {d : Nat} {g : DG} {l9 : List VX} (h : DagAt w Av d g) (hm : MpAt w9 Av g.wb l9) (hg : Grown w w9 fun k => k = g.wb) : DagAt w9 Av d { g with wait := l9 } := by
 have hA : Av g.wb := h.av _ (.inr (.inr (.inl rfl)))
 have ht : ∀ {v : Value} {l : List Hs}, OwnH w v l → ∀ k, v.ownBlock = some k → ¬ k = g.wb := fun ho k hk e => h.wait.neT (ho.typ hk) e
 exact ⟨hg.blk h.blk fun e => h.wait.ne h.blk e, h.held.grown hg (fun e => h.mm e) (fun k _ e => e ▸ hA) (fun k _ e => e), hm, h.oh.grown hg (ht h.oh), h.oo.grown hg (ht h.oo), h.oq.grown hg (ht h.oq), h.mm, h.ho, h.hq, h.oq', h.av, fun k hk => Nat.lt_of_lt_of_le (h.lt k hk) hg.size⟩
theorem DagAt.avInto {w : World} {Av Av' : Nat → Prop} {d : Nat} {g : DG} (h : DagAt w Av d g) (h1 : ∀ k, Av' k → Av k) (h2 : ∀ k, DgS d g k → Av' k) : DagAt w Av' d g :=
 h.grown (Grown.refl w fun _ => False) (fun _ e => e.elim) (fun _ _ e => e.elim) (fun k _ e => h1 k e) h2 fun k hk => h.lt k (h1 k hk)
theorem wp_upd {Q : Exit → Act → World → Prop} {o : Oper} {a : Act} {w : World} {K : Act → World → Prop} (m k x : Operand) (ho : o.op = .mapUpdate 75 m k x) (vm vk vx : Value) (hm : a.eval m = vm) (hk : a.eval k = vk) (hx : a.eval x = vx) (w' : World)
  (hr : (Instr.mapUpdate 75 vm vk vx).run Try.prog w = .ok () w') (h : K (a.put o.dst undef) w') : o.wp Try.prog a w K Q :=
 wp_cellS w' (by unfold execOp; simp only [ho, hm, hk, hx, Sem.run_bind, hr, Result.andThen_ok, Sem.run_pure]) h
set_option maxRecDepth 8000 in
theorem place_nil (d : Nat) (v : VX) (p : Value) (Av : Nat → Prop) (g : DG) (w : World) (hD : DagAt w Av d g) (hE : g.order = []) : Calls Try.prog 81 #[ptr d, .agg (vtx v.id.f v.ck p)] w fun e w' => e = .returned (.int .i64 0) ∧ Below w.heap.size w w' := by
 obtain ⟨vv, hvv⟩ : ∃ a : Array Value, Keep (a = vtx v.id.f v.ck p) := ⟨_, ⟨rfl⟩⟩
 rw [← hvv.out]
 have HD := Keep.mk hD
 have HE := Keep.mk hE
 clear hD hE
 go_enter Try.func81, Try.ntmps81
 refine wp_seq_k fun K1 hK1 => rgn ?_
 refine WL.box (by kernel_rfl) 39 (.tmp 1) rfl (vv) rfl ?_
 obtain ⟨w1, hwn⟩ : ∃ wx, Keep (wx = w.alloc (.cells (vv) 39)) := ⟨_, ⟨rfl⟩⟩
 rw [← hwn.out]
 have HX1 : Keep (Blk w1 w.heap.size 39 (vv)) := ⟨by rw [hwn.out]; exact Blk.new _ _ _⟩
 have LB1 : Keep (Below w.heap.size w w1) := ⟨by rw [hwn.out]; exact below_new _ _⟩
 clear hwn
 simp only [Act.put, pqA, pqB, pqC]
 refine VlS (.int .i64 0) ?_
 refine WL.nil (hK1 _ _ ?_)
 refine wp_seq_k fun K2 hK2 => ?_
 have HD1 := Keep.mk (HD.out.below LB1.out)
 obtain ⟨a2, c2, hov⟩ := HD1.out.oo.sl
 have hol : g.order.length = 0 := by rw [HE.out]; rfl
 rw [hol] at hov
 have c3 : w1.cell? ⟨d, 3, none⟩ = some (.slice a2 0 c2) := by have h := HD1.out.blk.c 3 (by rfl : (dgA g)[3]? = some g.ov); rw [hov] at h; exact h
 have hwm : IntKind.i64.wrap (-1) = -1 := by decide
 refine rgn ?_
 refine VlS (.pointer (some ⟨d, 0, none⟩)) ?_
 refine VlS (.pointer (some ⟨d, 0, none⟩)) ?_
 refine VlS (.pointer (some ⟨d, 3, none⟩)) ?_
 refine VlS (.slice a2 0 c2) ?_
 refine VlS (.int .i64 0) ?_
 refine VlS (.int .i64 0) ?_
 refine WL.nil (hK2 _ _ ?_)
 refine wp_seq_k fun K3 hK3 => ?_
 refine wp_seq_k fun K4 hK4 => rgn ?_
 refine VlS (.pointer (some ⟨d, 0, none⟩)) ?_
 refine VlS (.pointer (some ⟨d, 0, none⟩)) ?_
 refine VlS (.pointer (some ⟨d, 3, none⟩)) ?_
 refine VlS (.slice a2 0 c2) ?_
 refine VlS (.int .i64 0) ?_
 refine VlS (.int .i64 (-1)) ?_
 refine VlS (.int .i64 (-1)) ?_
 refine WL.nil (hK4 _ _ ?_)
 refine wp_block ?_
 refine wp_loop (fun ac wr => ∃ (t : Nat) (u18 u19 u20 u21 u22 u23 u24 u25 u26 u27 u28 u29 u30 u31 u32 u33 u34 u35 u36 u37 u38 u39 u40 u41 u42 u43 u44 u45 : Value), ac = { tmps := #[.pointer (some ⟨d, 0, none⟩), .agg vv, undef, .pointer (some ⟨w.heap.size, 0, none⟩), .int .i64 0, .int .i64 0, .int .i64 (-1), .pointer (some ⟨d, 0, none⟩), .pointer (some ⟨d, 0, none⟩), .pointer (some ⟨d, 3, none⟩), .slice a2 0 c2, .int .i64 0, .pointer (some ⟨d, 0, none⟩), .pointer (some ⟨d, 0, none⟩), .pointer (some ⟨d, 3, none⟩), .slice a2 0 c2, .int .i64 0, .int .i64 (-1), u18, u19, u20, u21, u22, u23, u24, u25, u26, u27, u28, u29, u30, u31, u32, u33, u34, u35, u36, u37, u38, u39, u40, u41, u42, u43, u44, u45, undef], defers := [] } ∧ w1 = wr) (fun a _ => 0) ⟨0, undef, undef, undef, undef, undef, undef, undef, undef, undef, undef, undef, undef, undef, undef, undef, undef, undef, undef, undef, undef, undef, undef, undef, undef, undef, undef, undef, undef, rfl, rfl⟩ ?_
 rintro ac wr ⟨t, u18, u19, u20, u21, u22, u23, u24, u25, u26, u27, u28, u29, u30, u31, u32, u33, u34, u35, u36, u37, u38, u39, u40, u41, u42, u43, u44, u45, rfl, hW⟩
 obtain rfl := hW
 refine wp_seq_k fun K5 hK5 => ?_
 refine wp_seq_k fun K6 hK6 => ?_
 refine wp_region_held_drew (S := fun _ => True) (by kernel_rfl) (trivial) (fun hHeld => ?_)
 refine tkS (i := 0) (oi := ⟨some 18, Op.move (Operand.tmp 6), 3, _, _, none⟩) (v := .int .i64 (-1)) rfl (Or.inl ⟨by rfl, fun w hS => by go_simp⟩) hHeld ?_
 refine tkS (i := 1) (oi := ⟨some 19, Op.binOp BinOp.geq 3 (Operand.tmp 18) (Operand.const (Value.int IntKind.i64 0)) 3, 4, _, _, none⟩) (v := .bool false) rfl (Or.inl ⟨by rfl, fun w hS => by go_simp⟩) hHeld ?_
 refine tkS (i := 2) (oi := ⟨some 20, Op.move (Operand.tmp 19), 4, _, _, none⟩) (v := .bool false) rfl (Or.inl ⟨by rfl, fun w hS => by go_simp⟩) hHeld ?_
 refine tkS (i := 3) (oi := ⟨some 21, Op.load 39 (Operand.tmp 3), 39, _, _, some (2, true)⟩) (v := undef) rfl (Or.inr ⟨by rfl, rfl⟩) hHeld ?_
 refine tkS (i := 4) (oi := ⟨some 22, Op.move (Operand.tmp 0), 27, _, _, some (2, true)⟩) (v := undef) rfl (Or.inr ⟨by rfl, rfl⟩) hHeld ?_
 refine tkS (i := 5) (oi := ⟨some 23, Op.nilCheck (Operand.tmp 22), 0, _, _, some (2, true)⟩) (v := undef) rfl (Or.inr ⟨by rfl, rfl⟩) hHeld ?_
 refine tkS (i := 6) (oi := ⟨some 24, Op.fieldAddr 77 (Operand.tmp 23) 3, 0, _, _, some (2, true)⟩) (v := undef) rfl (Or.inr ⟨by rfl, rfl⟩) hHeld ?_
 refine tkS (i := 7) (oi := ⟨some 25, Op.load 37 (Operand.tmp 24), 37, _, _, some (2, true)⟩) (v := undef) rfl (Or.inr ⟨by rfl, rfl⟩) hHeld ?_
 refine tkS (i := 8) (oi := ⟨some 26, Op.move (Operand.tmp 6), 3, _, _, some (2, true)⟩) (v := undef) rfl (Or.inr ⟨by rfl, rfl⟩) hHeld ?_
 refine tkS (i := 9) (oi := ⟨some 27, Op.indexAddr 37 (Operand.tmp 25) (Operand.tmp 26), 0, _, _, some (2, true)⟩) (v := undef) rfl (Or.inr ⟨by rfl, rfl⟩) hHeld ?_
 refine tkS (i := 10) (oi := ⟨some 28, Op.load 36 (Operand.tmp 27), 36, _, _, some (2, true)⟩) (v := undef) rfl (Or.inr ⟨by rfl, rfl⟩) hHeld ?_
 refine tkS (i := 11) (oi := ⟨some 29, Op.call { callee := Callee.value (Operand.func 84), args := #[Operand.tmp 21, Operand.tmp 28], argTypes := #[39, 36] }, 4, _, _, some (2, true)⟩) (v := undef) rfl (Or.inr ⟨by rfl, rfl⟩) hHeld ?_
 refine tkS (i := 12) (oi := ⟨some 30, Op.unOp UnOp.not 4 (Operand.tmp 29), 4, _, _, some (2, true)⟩) (v := undef) rfl (Or.inr ⟨by rfl, rfl⟩) hHeld ?_
 refine tkS (i := 13) (oi := ⟨some 31, Op.pick (Operand.tmp 20) (Operand.tmp 30) (Operand.const (Value.bool false)), 4, _, _, none⟩) (v := .bool false) rfl (Or.inl ⟨by rfl, fun w hS => by go_simp⟩) hHeld ?_
 refine wpAnyH_done (by kernel_rfl) ?_ _
 refine hK6 _ _ ?_
 refine wp_cond_false rfl ?_
 refine wp_exit ?_
 refine hK3 _ _ ?_
 refine wp_seq_k fun K7 hK7 => rgn ?_
 refine VlS (.int .i64 0) ?_
 refine VlS (.int .i64 0) ?_
 refine WL.nil (hK7 _ _ ?_)
 refine wp_ret ?_
 go_ret
 exact ⟨rfl, LB1.out.drew⟩
theorem idx_nil (pa : Option Addr) (pc : Nat) (fv : Value) (w : World) : Calls Try.prog 93 #[.slice pa 0 pc, fv] w fun e w' => e = .returned (.int .i64 (-1)) ∧ w' = w := by
 go_enter Try.func93, Try.ntmps93
 refine wp_seq_k fun K1 hK1 => rgn ?_
 refine VlS (.int .i64 0) ?_
 refine WL.nil (hK1 _ _ ?_)
 refine wp_seq_k fun K2 hK2 => ?_
 refine wp_seq_k fun K3 hK3 => rgn ?_
 refine VlS (.slice pa 0 pc) ?_
 refine VlS (.int .i64 0) ?_
 refine VlS (.int .i64 0) ?_
 refine WL.nil (hK3 _ _ ?_)
 refine wp_block ?_
 refine wp_loop (fun ac wr => ∃ (t : Nat) (u4 u5 u9 u10 u11 u12 u13 u14 u15 u16 u17 u18 : Value), ac = { tmps := #[.slice pa 0 pc, fv, undef, undef, u4, u5, .slice pa 0 pc, .int .i64 0, .int .i64 0, u9, u10, u11, u12, u13, u14, u15, u16, u17, u18], defers := [] } ∧ w = wr) (fun a _ => 0) ⟨0, .int .i64 0, undef, undef, undef, undef, undef, undef, undef, undef, undef, undef, undef, rfl, rfl⟩ ?_
 rintro ac wr ⟨t, u4, u5, u9, u10, u11, u12, u13, u14, u15, u16, u17, u18, rfl, hW⟩
 obtain rfl := hW
 refine wp_seq_k fun K4 hK4 => rgn ?_
 refine VlS (.bool false) ?_
 refine WL.nil (hK4 _ _ ?_)
 refine wp_seq_k fun K5 hK5 => ?_
 refine wp_cond_false rfl ?_
 refine wp_exit ?_
 refine hK2 _ _ ?_
 refine wp_seq_k fun K6 hK6 => rgn ?_
 refine VlS (.int .i64 (-1)) ?_
 refine WL.nil (hK6 _ _ ?_)
 refine wp_ret ?_
 go_ret
 exact ⟨rfl, rfl⟩
set_option maxRecDepth 8000 in
theorem df_nil (pa : Option Addr) (pc : Nat) (fv : Value) (w : World) : Calls Try.prog 82 #[.slice pa 0 pc, fv] w fun e w' => e = .returned (.slice pa 0 pc) ∧ w' = w := by
 go_enter Try.func82, Try.ntmps82
 refine wp_seq_k fun K1 hK1 => rgn ?_
 refine VlS (.slice none 0 0) ?_
 refine WL.nil (hK1 _ _ ?_)
 refine wp_seq_k fun K2 hK2 => rgn ?_
 refine VlS (.slice pa 0 pc) ?_
 refine VlS (fv) ?_
 refine WL.callF (by kernel_rfl) 93 _ _ rfl Try.in93 #[.slice pa 0 pc, fv] (by simp [Act.eval]) ?_
 refine (idx_nil pa pc fv w).mono ?_
 rintro e w1 ⟨rfl, hz⟩
 refine ⟨_, rfl, ?_⟩
 subst hz
 simp only [Act.put, pqA, pqB, pqC]
 refine VlS (.int .i64 (-1)) ?_
 refine WL.nil (hK2 _ _ ?_)
 refine wp_seq_k fun K3 hK3 => ?_
 refine wp_seq_k fun K4 hK4 => rgn ?_
 refine VlS (.int .i64 (-1)) ?_
 refine VlS (.bool true) ?_
 refine WL.nil (hK4 _ _ ?_)
 refine wp_cond_true rfl ?_
 refine wp_seq_k fun K5 hK5 => rgn ?_
 refine VlS (.slice pa 0 pc) ?_
 refine VlS (.slice pa 0 pc) ?_
 refine WL.nil (hK5 _ _ ?_)
 refine wp_ret ?_
 go_ret
 exact ⟨rfl, rfl⟩
end Go.Proofs.Ytogmdfhicbmplaa
namespace Go.Proofs.Ytogmdfhicbmplaa
open Go.RowKit
set_option linter.unusedSimpArgs false
set_option linter.unusedVariables false

theorem Try.in73 (w : World) (vs : Array Value) : (callFunc 73 vs).run Try.prog w = .ok (.enter 73 vs) w := by kernel_rfl
/-- The place of a hash in a list, from place t on. -/
def ixF (x : Hs) : List Hs → Nat → Int
 | [], _ => -1
 | y :: r, t => if x = y then (t : Int) else ixF x r (t + 1)
set_option maxRecDepth 8000 in
set_option maxHeartbeats 400000 in
theorem index_any (v : Value) (l : List Hs) (x : Hs) (w : World) (hr : HRow w v l) (hL : l.length ≤ 4398046511104) : Calls Try.prog 73 #[v, .agg (bytesA 32 x.f)] w fun e w' => e = .returned (.int .i64 (ixF x l 0)) ∧ Below w.heap.size w w' := by
 obtain ⟨pa, pc, rfl⟩ := hr.form
 have HR := Keep.mk hr
 have HL := Keep.mk hL
 clear hr hL
 go_enter Try.func73, Try.ntmps73
 refine wp_seq_k fun K1 hK1 => rgn ?_
 refine WL.box (by kernel_rfl) 36 (.tmp 1) rfl (bytesA 32 x.f) rfl ?_
 obtain ⟨w1, hwn⟩ : ∃ wx, Keep (wx = w.alloc (.cells (bytesA 32 x.f) 36)) := ⟨_, ⟨rfl⟩⟩
 rw [← hwn.out]
 have HX1 : Keep (Blk w1 w.heap.size 36 (bytesA 32 x.f)) := ⟨by rw [hwn.out]; exact Blk.new _ _ _⟩
 have LB1 : Keep (Below w.heap.size w w1) := ⟨by rw [hwn.out]; exact below_new _ _⟩
 clear hwn
 have HR1 := Keep.mk (HR.out.below LB1.out)
 simp only [Act.put, pqA, pqB, pqC]
 refine VlS (.int .i64 0) ?_
 refine WL.nil (hK1 _ _ ?_)
 refine wp_seq_k fun K2 hK2 => ?_
 refine wp_seq_k fun K3 hK3 => rgn ?_
 refine VlS (.slice pa l.length pc) ?_
 refine VlS (.int .i64 (l.length : Int)) ?_
 refine VlS (.int .i64 0) ?_
 refine WL.nil (hK3 _ _ ?_)
 refine wp_block ?_
 refine wp_loop (fun ac wr => ∃ (t : Nat) (u4 u5 u9 u10 u11 u12 u13 u14 u15 u16 u17 u18 : Value), ac = { tmps := #[.slice pa l.length pc, .agg (bytesA 32 x.f), undef, .pointer (some ⟨w.heap.size, 0, none⟩), u4, u5, .slice pa l.length pc, .int .i64 (l.length : Int), .int .i64 (t : Int), u9, u10, u11, u12, u13, u14, u15, u16, u17, u18], defers := [] } ∧ t ≤ l.length ∧ ixF x l 0 = ixF x (l.drop t) t ∧ Below w1.heap.size w1 wr) (fun a _ => l.length - (intOf (a.tmps.getD 8 undef)).toNat) ⟨0, .int .i64 0, undef, undef, undef, undef, undef, undef, undef, undef, undef, undef, undef, rfl, by omega, rfl, Below.refl _ _⟩ ?_
 rintro ac wr ⟨t, u4, u5, u9, u10, u11, u12, u13, u14, u15, u16, u17, u18, rfl, ht, hP, hB⟩
 have JB := Keep.mk hB
 have JP := Keep.mk hP
 clear hB hP
 have HRr := Keep.mk (HR1.out.below JB.out)
 have HXr := Keep.mk (HX1.out.below JB.out HX1.out.lt)
 by_cases htl : t < l.length
 ·have htl' : (t : Int) < (l.length : Int) := by omega
  have hwr1 : IntKind.i64.wrap ((t : Int) + 1) = (t : Int) + 1 := by rw [IntKind.wrap_i64]; have := HL.out; omega
  obtain ⟨gp, op, hpa, hlen, hcap, hrg⟩ := (HRr.out).at (by omega)
  have hel := rangeAt_elem hrg t htl
  obtain ⟨hh, hhh⟩ : ∃ hh, hh = l[t] := ⟨_, rfl⟩
  rw [← hhh] at hel
  have Jhh := Keep.mk hhh
  have Hel := Keep.mk hel
  subst hpa
  clear hlen hcap hrg hhh hel
  refine wp_seq_k fun K4 hK4 => rgn ?_
  refine VlS (.bool true) ?_
  refine WL.nil (hK4 _ _ ?_)
  refine wp_seq_k fun K5 hK5 => ?_
  refine wp_cond_true rfl ?_
  refine wp_skip ?_
  refine hK5 _ _ ?_
  refine wp_seq_k fun K6 hK6 => ?_
  refine wp_block ?_
  refine wp_seq_k fun K7 hK7 => rgn ?_
  refine VlS (.int .i64 (t : Int)) ?_
  refine VlS (.int .i64 (t : Int)) ?_
  refine WL.nil (hK7 _ _ ?_)
  refine wp_seq_k fun K8 hK8 => ?_
  have hS0 : Keep ((fun wx => wx.rangeAt gp (op + t * 32) (encH hh) ∧ wx.rangeAt w.heap.size 0 (bytesA 32 x.f).toList) wr.drew) := ⟨⟨rangeAt_drew Hel.out, blk_rng HXr.out.drew⟩⟩
  obtain ⟨cb, hcb⟩ : ∃ b, decide (x = hh) = b := ⟨_, rfl⟩
  have Hcb := Keep.mk hcb
  refine wp_region_held_drew (S := fun wx => wx.rangeAt gp (op + t * 32) (encH hh) ∧ wx.rangeAt w.heap.size 0 (bytesA 32 x.f).toList) (by kernel_rfl) (hS0.out) (fun hHeld => ?_)
  refine tkS (i := 0) (oi := ⟨some 11, Op.load 36 (Operand.tmp 3), 36, _, _, none⟩) (v := .agg (bytesA 32 x.f)) rfl (yieldsIf_ld (by rfl) (Operand.tmp 3) 36 rfl w.heap.size 0 rfl (bytesA 32 x.f) _ Try.underlying36 rfl (size36A _) fun w hS => hS.2) hHeld ?_
  refine tkS (i := 1) (oi := ⟨some 12, Op.move (Operand.tmp 0), 37, _, _, none⟩) (v := .slice (some ⟨gp, op, none⟩) l.length pc) rfl (Or.inl ⟨by rfl, fun w hS => by clear hS; go_simp⟩) hHeld ?_
  refine tkS (i := 2) (oi := ⟨some 13, Op.move (Operand.tmp 5), 3, _, _, none⟩) (v := .int .i64 (t : Int)) rfl (Or.inl ⟨by rfl, fun w hS => by clear hS; go_simp⟩) hHeld ?_
  refine tkS (i := 3) (oi := ⟨some 14, Op.indexAddr 37 (Operand.tmp 12) (Operand.tmp 13), 0, _, _, none⟩) (v := .pointer (some ⟨gp, op + t * 32, none⟩)) rfl (Or.inl ⟨by rfl, fun w hS => by go_simp⟩) hHeld ?_
  refine tkS (i := 4) (oi := ⟨some 15, Op.load 36 (Operand.tmp 14), 36, _, _, none⟩) (v := .agg (bytesA 32 hh.f)) rfl (yieldsIf_ldE (by rfl) (Operand.tmp 14) rfl gp (op + t * 32) rfl hh fun w hS => hS.1) hHeld ?_
  refine tkS (i := 5) (oi := ⟨some 16, Op.binOp BinOp.eql 36 (Operand.tmp 11) (Operand.tmp 15) 36, 4, _, _, none⟩) (v := .bool cb) rfl (Or.inl ⟨by rfl, fun w hS => by go_simp; rw [run_equal_arr2, all_eq_iff, Hcb.out]; rfl⟩) hHeld ?_
  refine wpAnyH_done (by kernel_rfl) ?_ _
  refine hK8 _ _ ?_
  rcases Bool.eq_false_or_eq_true cb with hcq | hcq
  ·subst hcq
   refine wp_cond_true rfl ?_
   refine wp_seq_k fun K9 hK9 => rgn ?_
   refine VlS (.int .i64 (t : Int)) ?_
   refine VlS (.int .i64 (t : Int)) ?_
   refine WL.nil (hK9 _ _ ?_)
   refine wp_ret ?_
   go_ret
   have heq : x = hh := of_decide_eq_true Hcb.out
   refine ⟨?_, belowT LB1.out (belowT JB.out (Below.refl _ _).drew)⟩
   rw [JP.out, List.drop_eq_getElem_cons htl, ixF, ← Jhh.out, if_pos heq]; rfl
  ·subst hcq
   refine wp_cond_false rfl ?_
   refine wp_skip ?_
   refine hK6 _ _ ?_
   refine rgn ?_
   refine VlS (.int .i64 ((t : Int) + 1)) ?_
   refine VlS (.int .i64 ((t : Int) + 1)) ?_
   refine WL.nil ?_
   have hne : ¬ x = hh := of_decide_eq_false Hcb.out
   refine ⟨⟨t + 1, u4, .int .i64 (t : Int), .bool true, .int .i64 (t : Int), .agg (bytesA 32 x.f), .slice (some ⟨gp, op, none⟩) l.length pc, .int .i64 (t : Int), .pointer (some ⟨gp, op + t * 32, none⟩), .agg (bytesA 32 hh.f), .bool false, u17, .int .i64 ((t : Int) + 1), rfl, by omega, ?_, belowT JB.out (Below.refl _ _).drew⟩, ?_⟩
   ·rw [JP.out, List.drop_eq_getElem_cons htl, ixF, ← Jhh.out, if_neg hne]
   ·simp only [intOf]; show l.length - ((t : Int) + 1).toNat < l.length - ((t : Int)).toNat; omega
 ·have hte : Keep (t = l.length) := ⟨by omega⟩
  have htl' : ¬ (t : Int) < (l.length : Int) := by omega
  refine wp_seq_k fun K10 hK10 => rgn ?_
  refine VlS (.bool false) ?_
  refine WL.nil (hK10 _ _ ?_)
  refine wp_seq_k fun K11 hK11 => ?_
  refine wp_cond_false rfl ?_
  refine wp_exit ?_
  refine hK2 _ _ ?_
  refine wp_seq_k fun K12 hK12 => rgn ?_
  refine VlS (.int .i64 (-1)) ?_
  refine WL.nil (hK12 _ _ ?_)
  refine wp_ret ?_
  go_ret
  refine ⟨?_, belowT LB1.out JB.out⟩
  rw [JP.out, hte.out, List.drop_length]; rfl
end Go.Proofs.Ytogmdfhicbmplaa
namespace Go.Proofs.Ytogmdfhicbmplaa
open Go.RowKit
set_option linter.unusedSimpArgs false
set_option linter.unusedVariables false

theorem Try.in74 (w : World) (vs : Array Value) : (callFunc 74 vs).run Try.prog w = .ok (.enter 74 vs) w := by kernel_rfl
theorem yieldsIf_slr {ops : Array Oper} {S : World → Prop} {op : Oper} {a : Act} (hw : Region.wanted op (yielded ops a.tmps) = true) (t : TypeId) (x : Operand) (lo hi : Option Operand) (ho : op.op = .slice t x lo hi none)
  (vx : Value) (vlo vhi : Option Value) (vs : Value) (hx : a.eval x = vx) (hl : lo.map a.eval = vlo) (hh : hi.map a.eval = vhi) (hr : ∀ w : World, (Instr.sliceAt t vx vlo vhi none).run Try.prog w = .ok vs w) : YieldsIf Try.prog ops S op vs a :=
 .inl ⟨hw, fun w _ => by unfold execOp; simp only [ho, hx, hl, hh, Option.map_none, Sem.run_bind, hr w, Result.andThen_ok, Sem.run_pure]⟩
theorem WL.sl3 {ops : Array Oper} {rest : List Oper} {o : Oper} {a : Act} {w : World} {Q : Exit → Act → World → Prop} (hw : Region.wanted o (yielded ops a.tmps) = true) (t : TypeId) (x : Operand) (lo hi mx : Option Operand) (ho : o.op = .slice t x lo hi mx)
  (vx : Value) (vlo vhi vmx : Option Value) (vs : Value) (hx : a.eval x = vx) (hl : lo.map a.eval = vlo) (hh : hi.map a.eval = vhi) (hm : mx.map a.eval = vmx) (hr : (Instr.sliceAt t vx vlo vhi vmx).run Try.prog w = .ok vs w) (h : WL Try.prog ops Q rest (a.put o.dst vs) w) : WL Try.prog ops Q (o :: rest) a w :=
 WL.val hw vs (by unfold execOp; simp only [ho, hx, hl, hh, hm, Sem.run_bind, hr, Result.andThen_ok, Sem.run_pure]) h
theorem slH_3 (a : Option Addr) (n c i j m : Nat) (h1 : i ≤ j) (h2 : j ≤ m) (h3 : m ≤ c) (w : World) : (Instr.sliceAt 37 (.slice a n c) (some (.int .i64 (i : Int))) (some (.int .i64 (j : Int))) (some (.int .i64 (m : Int)))).run Try.prog w = .ok (sliced a i j m 32) w := by
 have k1 := run_slice_lhm (P := Try.prog) (w := w) 37 a n c slH_u .i64 .i64 .i64 (i : Int) (j : Int) (m : Int) (by omega) (by omega) (by omega) (by omega)
 have k2 := run_sliceAt_slice (P := Try.prog) (w := w) 37 (.slice a n c) (some (.int .i64 (i : Int))) (some (.int .i64 (j : Int))) (some (.int .i64 (m : Int))) slH_u
 rw [k2, k1, Try.elem37, Try.sizeOf36, Result.andThen_ok, Int.toNat_natCast, Int.toNat_natCast, Int.toNat_natCast]
theorem slH_lh (a : Option Addr) (n c i j : Nat) (h1 : i ≤ j) (h2 : j ≤ c) (w : World) : (Instr.sliceAt 37 (.slice a n c) (some (.int .i64 (i : Int))) (some (.int .i64 (j : Int))) none).run Try.prog w = .ok (sliced a i j c 32) w := by
 have k1 := run_slice_lh (P := Try.prog) (w := w) 37 a n c slH_u .i64 .i64 (i : Int) (j : Int) (by omega) (by omega) (by omega)
 have k2 := run_sliceAt_slice (P := Try.prog) (w := w) 37 (.slice a n c) (some (.int .i64 (i : Int))) (some (.int .i64 (j : Int))) none slH_u
 rw [k2, k1, Try.elem37, Try.sizeOf36, Result.andThen_ok, Int.toNat_natCast, Int.toNat_natCast]
/-- clear of one hash, in any block of hashes. -/
theorem run_clr1 (w : World) (g k c : Nat) (cur : Array Value) (ty : TypeId) (hg : Blk w g 36 cur) (hk : k * 32 + 32 ≤ cur.size) : ∃ cur' : Array Value,
  (Builtin.clear_ #[37] ty #[.slice (some ⟨g, k * 32, none⟩) 1 c]).run Try.prog w = .ok (.tuple #[]) (w.setRow g cur') ∧ cur'.size = cur.size ∧ cur'.toList.take (k * 32) = cur.toList.take (k * 32) := by
 have hfl : (flatH [default]).length = 32 := by rw [flatH_len]; rfl
 have hst := run_storeCells_at Try.prog g (k * 32) 36 (flatH [default]) 0 cur w hg (by rw [hfl]; omega) (flatH_one _)
 obtain ⟨i, hi, hzz⟩ := Option.map_eq_some_iff.1 Try.info36
 simp only [Prod.mk.injEq] at hzz
 refine ⟨(cur.toList.take (k * 32 + 0) ++ flatH [default] ++ cur.toList.drop (k * 32 + 0 + (flatH [default]).length)).toArray, ?_, ?_, ?_⟩
 ·simp [Builtin.clear_, zeroValue, typeInfo, hi, hzz.1, Value.cells, zeroCellsH, hst]
 ·simp only [List.size_toArray, List.length_append, List.length_take, List.length_drop, Array.length_toList, hfl]; omega
 ·simp only [Nat.add_zero]
  rw [List.append_assoc, List.take_append_of_le_length (by simp; omega), List.take_take, Nat.min_self]
theorem WL.clr1 {ops : Array Oper} {rest : List Oper} {o : Oper} {a : Act} {w : World} {Q : Exit → Act → World → Prop} (hw : Region.wanted o (yielded ops a.tmps) = true) (x : Operand)
  (ho : o.op = .call { callee := .builtin .clear, args := #[x], argTypes := #[37] }) (g k c : Nat) (cur : Array Value) (hx : a.eval x = .slice (some ⟨g, k * 32, none⟩) 1 c) (hg : Blk w g 36 cur) (hk : k * 32 + 32 ≤ cur.size)
  (h : ∀ cur' : Array Value, cur'.size = cur.size → cur'.toList.take (k * 32) = cur.toList.take (k * 32) → WL Try.prog ops Q rest (a.put o.dst (.tuple #[])) (w.setRow g cur')) : WL Try.prog ops Q (o :: rest) a w :=
 ⟨wpList_wanted hw fun K hK => by
  obtain ⟨cur', hr, h1, h2⟩ := run_clr1 w g k c cur o.type hg hk
  unfold Oper.wp execOp
  simp only [ho, resolve, invoke, builtin, Sem.run_bind, Sem.run_pure, Result.andThen_ok, List.map_toArray, List.map_cons, List.map_nil, hx, hr]
  exact hK _ _ (h cur' h1 h2).out⟩
theorem ownH_take {w : World} {g n cap : Nat} {l : List Hs} (h : OwnH w (.slice (some ⟨g, 0, none⟩) n cap) l) (i : Nat) (hi : i ≤ l.length) : w.ownsRow 0 36 32 (.slice (some ⟨g, 0, none⟩) i cap) i (flatH (l.take i)) := by
 rcases h.2 with ⟨h0, _⟩ | ⟨g', cap', cur, hv, h2, h3, h4, h5, h6, h7⟩
 ·cases h0
 ·injection hv with e1 e2 e3
  injection e1 with e1
  injection e1 with e1
  subst e1 e3
  refine ⟨by rw [flatH_len, List.length_take]; congr 1; omega, .inr ⟨g, cap, cur, rfl, h2, h3, by omega, h5, h6, ?_⟩⟩
  rw [← flatH_take, ← h7, List.take_take, Nat.min_eq_left (Nat.mul_le_mul_right _ hi)]
theorem ownH_rng {w : World} {g n cap : Nat} {l : List Hs} (h : OwnH w (.slice (some ⟨g, 0, none⟩) n cap) l) : w.rangeAt g 0 (flatH l) := by
 rcases h.2 with ⟨h0, _⟩ | ⟨g', cap', cur, hv, h2, h3, h4, h5, h6, h7⟩
 ·cases h0
 ·injection hv with e1 e2 e3
  injection e1 with e1
  injection e1 with e1
  subst e1
  intro j v hj
  have h3' : Blk w g 36 cur := h3
  have hjl := (List.getElem?_eq_some_iff.1 hj).1
  rw [← h7] at hj hjl
  rw [Nat.zero_add, h3'.cell, ← Array.getElem?_toList]
  rw [List.getElem?_take] at hj
  split at hj
  ·exact hj
  ·cases hj
set_option maxRecDepth 8000 in
set_option maxHeartbeats 400000 in
theorem del_one (g cap i : Nat) (l : List Hs) (w : World) (hO : OwnH w (.slice (some ⟨g, 0, none⟩) l.length cap) l) (hi : i < l.length) (hc : l.length ≤ cap) (hcm : cap ≤ maxLen) (hL : l.length ≤ 4398046511104) : Calls Try.prog 74 #[.slice (some ⟨g, 0, none⟩) l.length cap, .int .i64 (i : Int), .int .i64 ((i + 1 : Nat) : Int)] w fun e w' => ∃ n, e = .returned (.slice (some ⟨g, 0, none⟩) n cap) ∧ OwnH w' (.slice (some ⟨g, 0, none⟩) n cap) (l.take i ++ l.drop (i + 1)) ∧ Grown w w' fun k => k = g := by
 have HO := Keep.mk hO
 have Hi := Keep.mk hi
 have Hc := Keep.mk hc
 have Hcm := Keep.mk hcm
 have HL := Keep.mk hL
 clear hO hi hc hcm hL
 go_enter Try.func74, Try.ntmps74
 refine wp_seq_k fun K1 hK1 => rgn ?_
 refine VlS (.slice none 0 0) ?_
 refine WL.nil (hK1 _ _ ?_)
 refine wp_seq_k fun K2 hK2 => rgn ?_
 refine VlS (.slice (some ⟨g, 0, none⟩) l.length cap) ?_
 refine VlS (.int .i64 (i : Int)) ?_
 refine VlS (.int .i64 ((i + 1 : Nat) : Int)) ?_
 refine VlS (.slice (some ⟨g, 0, none⟩) l.length cap) ?_
 refine VlS (.int .i64 (l.length : Int)) ?_
 refine WL.sl3 (by kernel_rfl) 37 (.tmp 8) (some (.tmp 9)) (some (.tmp 10)) (some (.tmp 12)) rfl _ (some (.int .i64 (i : Int))) (some (.int .i64 ((i + 1 : Nat) : Int))) (some (.int .i64 (l.length : Int))) (sliced (some ⟨g, 0, none⟩) i (i + 1) l.length 32) rfl rfl rfl rfl (slH_3 _ _ _ _ _ _ (by omega) (by have := Hi.out; omega) Hc.out w) ?_
 simp only [Act.put, pqA, pqB, pqC]
 refine WL.nil (hK2 _ _ ?_)
 refine wp_seq_k fun K3 hK3 => ?_
 refine wp_seq_k fun K4 hK4 => rgn ?_
 refine VlS (.int .i64 (i : Int)) ?_
 refine VlS (.int .i64 ((i + 1 : Nat) : Int)) ?_
 have hne_ : ¬ (i : Int) = (i : Int) + 1 := by omega
 refine VlS (.bool false) ?_
 refine WL.nil (hK4 _ _ ?_)
 refine wp_cond_false rfl ?_
 refine wp_skip ?_
 refine hK3 _ _ ?_
 refine wp_seq_k fun K5 hK5 => rgn ?_
 refine VlS (.slice (some ⟨g, 0, none⟩) l.length cap) ?_
 refine VlS (.int .i64 (l.length : Int)) ?_
 refine VlS (.int .i64 (l.length : Int)) ?_
 refine WL.nil (hK5 _ _ ?_)
 refine wp_seq_k fun K6 hK6 => ?_
 obtain ⟨ad, mm, cc, hsl, hmm, had⟩ : ∃ ad mm cc, sliced (some ⟨g, 0, none⟩) (i + 1) l.length cap 32 = .slice (some ad) mm cc ∧ mm = l.length - (i + 1) ∧ (0 < mm → ad = ⟨g, (i + 1) * 32, none⟩) := by
  refine ⟨if cap = i + 1 then ⟨g, 0, none⟩ else ⟨g, (i + 1) * 32, none⟩, l.length - (i + 1), cap - (i + 1), ?_, rfl, fun h => if_neg (by have := Hc.out; omega)⟩
  unfold sliced
  split <;> simp [Addr.add]
 have Hsl := Keep.mk hsl
 have Hmm := Keep.mk hmm
 have Had := Keep.mk had
 clear hsl hmm had
 refine wp_region_held_drew (S := fun _ => True) (by kernel_rfl) (trivial) (fun hHeld => ?_)
 refine tkS (i := 0) (oi := ⟨some 20, Op.move (Operand.tmp 0), 37, _, _, none⟩) (v := .slice (some ⟨g, 0, none⟩) l.length cap) rfl (Or.inl ⟨by rfl, fun w hS => by go_simp⟩) hHeld ?_
 refine tkS (i := 1) (oi := ⟨some 21, Op.move (Operand.tmp 1), 3, _, _, none⟩) (v := .int .i64 (i : Int)) rfl (Or.inl ⟨by rfl, fun w hS => by go_simp⟩) hHeld ?_
 refine tkS (i := 2) (oi := ⟨some 22, Op.slice 37 (Operand.tmp 20) none (some (Operand.tmp 21)) none, 37, _, _, none⟩) (v := .slice (some ⟨g, 0, none⟩) i cap) rfl (yieldsIf_slr (by rfl) 37 (Operand.tmp 20) none (some (Operand.tmp 21)) rfl _ none (some (.int .i64 (i : Int))) _ rfl rfl rfl fun w => slH_h _ _ _ i (by have := Hc.out; have := Hi.out; omega) w) hHeld ?_
 refine tkS (i := 3) (oi := ⟨some 23, Op.move (Operand.tmp 0), 37, _, _, none⟩) (v := .slice (some ⟨g, 0, none⟩) l.length cap) rfl (Or.inl ⟨by rfl, fun w hS => by go_simp⟩) hHeld ?_
 refine tkS (i := 4) (oi := ⟨some 24, Op.move (Operand.tmp 2), 3, _, _, none⟩) (v := .int .i64 ((i + 1 : Nat) : Int)) rfl (Or.inl ⟨by rfl, fun w hS => by go_simp⟩) hHeld ?_
 refine tkS (i := 5) (oi := ⟨some 25, Op.slice 37 (Operand.tmp 23) (some (Operand.tmp 24)) none none, 37, _, _, none⟩) (v := .slice (some ad) mm cc) rfl (yieldsIf_slr (by rfl) 37 (Operand.tmp 23) (some (Operand.tmp 24)) none rfl _ (some (.int .i64 ((i + 1 : Nat) : Int))) none _ rfl rfl rfl fun w => (slH_l _ _ _ (i + 1) (by have := Hi.out; omega) w).trans (by rw [Hsl.out])) hHeld ?_
 refine wpAnyH_ready (rs := [6]) (by kernel_rfl) (by simp) ?_
 refine AllReadyH.cons (o := ⟨some 26, Op.call { callee := Callee.builtin Builtin.append, args := #[Operand.tmp 22, Operand.tmp 25], argTypes := #[37, 37] }, 37, _, _, none⟩) rfl (fun K hK => ?_) AllReadyH.nil
 rw [if_pos (by rfl)]
 obtain ⟨ti, hti, hzz⟩ := Option.map_eq_some_iff.1 Try.info36
 simp only [Prod.mk.injEq] at hzz
 refine wp_append_own_spare w.drew (Operand.tmp 22) (Operand.tmp 25) 37 rfl 0 36 ti 32 Try.underlying37 hti hzz.2.1 g i cap (flatH (l.take i)) rfl (ownH_take HO.out i (by have := Hi.out; omega)) ad mm cc (flatH (l.drop (i + 1))) rfl (by rw [flatH_len, List.length_drop, Hmm.out]) (fun j u hu => ?_) (flatH_one _) (by have := Hc.out; have := Hi.out; have := Hmm.out; omega) fun w1 h1 h2 => ?_
 ·have hpos : 0 < mm := by
   have := (List.getElem?_eq_some_iff.1 hu).1
   rw [flatH_len, List.length_drop] at this
   have := Hmm.out; omega
  have h := rangeAt_drop (ownH_rng HO.out) (i + 1) (by have := Hi.out; omega) j u hu
  rw [Nat.zero_add] at h
  rw [Had.out hpos, Addr.add_mid]
  exact h
 have HW1 := Keep.mk h1
 have HG1 := Keep.mk h2
 clear hzz hti h1 h2
 refine hK _ _ trivial fun hH1 => ?_
 clear hK
 simp only [Act.put, pqA, pqB, pqC]
 refine tkS (i := 7) (oi := ⟨some 0, Op.assign (Operand.tmp 26), 37, _, _, none⟩) (v := .slice (some ⟨g, 0, none⟩) (i + mm) cap) rfl (Or.inl ⟨by rfl, fun w hS => by go_simp⟩) hH1 ?_
 refine wpAnyH_done (by kernel_rfl) ?_ _
 refine hK6 _ _ ?_
 refine wp_seq_k fun K7 hK7 => rgn ?_
 refine VlS (.slice (some ⟨g, 0, none⟩) (i + mm) cap) ?_
 refine VlS (.slice (some ⟨g, 0, none⟩) (i + mm) cap) ?_
 refine VlS (.int .i64 ((i + mm : Nat) : Int)) ?_
 refine VlS (.int .i64 (l.length : Int)) ?_
 refine WL.slr (by kernel_rfl) 37 (.tmp 27) (some (.tmp 29)) (some (.tmp 30)) rfl _ (some (.int .i64 ((i + mm : Nat) : Int))) (some (.int .i64 (l.length : Int))) (.slice (some ⟨g, (i + mm) * 32, none⟩) 1 (cap - (i + mm))) rfl rfl rfl ((slH_lh _ _ _ (i + mm) l.length (by have := Hmm.out; have := Hi.out; omega) Hc.out _).trans (by have := Hmm.out; have := Hi.out; have := Hc.out; unfold sliced; rw [if_neg (by omega), show l.length - (i + mm) = 1 by omega, Option.map_some, Addr.add_mid, Nat.zero_add])) ?_
 simp only [Act.put, pqA, pqB, pqC]
 obtain ⟨cur, hcur, hcs, hct⟩ : ∃ cur : Array Value, Blk w1 g 36 cur ∧ cur.size = cap * 32 ∧ cur.toList.take ((i + mm) * 32) = flatH (l.take i ++ l.drop (i + 1)) := by
  rcases HW1.out.2 with ⟨h0, _⟩ | ⟨g', cap', cur, hv, h2, h3, h4, h5, h6, h7⟩
  ·cases h0
  ·injection hv with e1 e2 e3
   injection e1 with e1
   injection e1 with e1
   subst e1 e3
   exact ⟨cur, h3, h6, by rw [flatH_app]; exact h7⟩
 refine WL.clr1 (by kernel_rfl) (.tmp 31) rfl g (i + mm) _ cur rfl hcur (by rw [hcs]; have := Hmm.out; have := Hi.out; have := Hc.out; omega) fun cur' k1 k2 => ?_
 have HF : Keep (OwnH (w1.setRow g cur') (.slice (some ⟨g, 0, none⟩) (i + mm) cap) (l.take i ++ l.drop (i + 1))) := ⟨by
  have hl : (l.take i ++ l.drop (i + 1)).length = i + mm := by rw [List.length_append, List.length_take, List.length_drop]; have := Hmm.out; have := Hi.out; omega
  unfold OwnH
  rw [hl]
  exact ⟨by rw [flatH_len, hl], .inr ⟨g, cap, cur', rfl, Nat.zero_le _, hcur.setRow cur', by have := Hmm.out; have := Hi.out; have := Hc.out; omega, Hcm.out, by rw [k1, hcs], by rw [k2, hct]⟩⟩⟩
 have HGr : Keep (Grown w (w1.setRow g cur') fun k => k = g) := ⟨((Grown.refl w _).drew.trans (Grown.of HG1.out fun k _ e => (Option.some.inj e).symm)).trans (Grown.setRow w1 g cur' fun _ => rfl)⟩
 clear hcur hcs hct k1 k2 HW1 HG1
 simp only [Act.put]
 refine WL.nil (hK7 _ _ ?_)
 refine wp_seq_k fun K8 hK8 => rgn ?_
 refine VlS (.slice (some ⟨g, 0, none⟩) (i + mm) cap) ?_
 refine VlS (.slice (some ⟨g, 0, none⟩) (i + mm) cap) ?_
 refine WL.nil (hK8 _ _ ?_)
 refine wp_ret ?_
 go_ret
 exact ⟨i + mm, rfl, HF.out, HGr.out⟩
end Go.Proofs.Ytogmdfhicbmplaa
