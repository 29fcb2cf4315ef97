import Derived.Test.YtogmdfhicbmplaaB05
import Derived.Test.YtogmdfhicbmplaaB04
namespace Go.Proofs.Ytogmdfhicbmplaa
open Go.RowKit
set_option linter.unusedSimpArgs false
set_option linter.unusedVariables false

/-- Where a vertex stands, looked for from place k down. -/
def plc (v : VX) (l : List Hs) : Nat → Nat → Nat
 | 0, b => b
 | k + 1, b => if l.getD k default ∈ v.ps then b else plc v l k (if cf v.id (l.getD k default) < 0 then k else b)
set_option maxRecDepth 8000 in
set_option maxHeartbeats 1000000 in
theorem place_any (d : Nat) (v : VX) (p : Value) (Av : Nat → Prop) (g : DG) (w : World) (hD : DagAt w Av d g) (hr : HRow w p v.ps) (hI : Inc v.ps) (hL : v.ps.length ≤ 4398046511104) (hOl : g.order.length ≤ 4398046511104) : Calls Try.prog 81 #[ptr d, .agg (vtx v.id.f v.ck p)] w fun e w' => e = .returned (.int .i64 (plc v g.order g.order.length g.order.length : Int)) ∧ Below w.heap.size w w' := by
 obtain ⟨pa, pc, rfl⟩ := hr.form
 obtain ⟨vv, hvv⟩ : ∃ a : Array Value, Keep (a = vtx v.id.f v.ck (.slice pa v.ps.length pc)) := ⟨_, ⟨rfl⟩⟩
 rw [← hvv.out]
 obtain ⟨oa, oc, hov⟩ := hD.oo.sl
 have Hov := Keep.mk hov
 have HD := Keep.mk hD
 have HR := Keep.mk hr
 have HI := Keep.mk hI
 have HL := Keep.mk hL
 have HOl := Keep.mk hOl
 clear hD hr hI hL hOl hov
 go_enter Try.func81, Try.ntmps81
 refine wp_seq_k fun K1 hK1 => rgn ?_
 refine WL.box (by kernel_rfl) 39 (.tmp 1) rfl (vv) rfl ?_
 obtain ⟨w1, hwn⟩ : ∃ wx, Keep (wx = w.alloc (.cells (vv) 39)) := ⟨_, ⟨rfl⟩⟩
 rw [← hwn.out]
 have HX1 : Keep (Blk w1 w.heap.size 39 (vv)) := ⟨by rw [hwn.out]; exact Blk.new _ _ _⟩
 have LB1 : Keep (Below w.heap.size w w1) := ⟨by rw [hwn.out]; exact below_new _ _⟩
 clear hwn
 simp only [Act.put, pqA, pqB, pqC]
 refine VlS (.int .i64 0) ?_
 refine WL.nil (hK1 _ _ ?_)
 refine wp_seq_k fun K2 hK2 => ?_
 have HD1 := Keep.mk (HD.out.below LB1.out)
 have HR1 := Keep.mk (HR.out.below LB1.out)
 have c3 : w1.cell? ⟨d, 3, none⟩ = some (.slice oa g.order.length oc) := by have h := HD1.out.blk.c 3 (by rfl : (dgA g)[3]? = some g.ov); rw [Hov.out] at h; exact h
 have hwm : IntKind.i64.wrap ((g.order.length : Int) - 1) = (g.order.length : Int) - 1 := by rw [IntKind.wrap_i64]; have := HOl.out; omega
 refine rgn ?_
 refine VlS (.pointer (some ⟨d, 0, none⟩)) ?_
 refine VlS (.pointer (some ⟨d, 0, none⟩)) ?_
 refine VlS (.pointer (some ⟨d, 3, none⟩)) ?_
 refine VlS (.slice oa g.order.length oc) ?_
 refine VlS (.int .i64 (g.order.length : Int)) ?_
 refine VlS (.int .i64 (g.order.length : Int)) ?_
 refine WL.nil (hK2 _ _ ?_)
 refine wp_seq_k fun K3 hK3 => ?_
 refine wp_seq_k fun K4 hK4 => rgn ?_
 refine VlS (.pointer (some ⟨d, 0, none⟩)) ?_
 refine VlS (.pointer (some ⟨d, 0, none⟩)) ?_
 refine VlS (.pointer (some ⟨d, 3, none⟩)) ?_
 refine VlS (.slice oa g.order.length oc) ?_
 refine VlS (.int .i64 (g.order.length : Int)) ?_
 refine VlS (.int .i64 ((g.order.length : Int) - 1)) ?_
 refine VlS (.int .i64 ((g.order.length : Int) - 1)) ?_
 refine WL.nil (hK4 _ _ ?_)
 refine wp_block ?_
 refine wp_loop (fun ac wr => ∃ (t : Nat) (u18 u19 u20 u21 u22 u23 u24 u25 u26 u27 u28 u29 u30 u31 u32 u33 u34 u35 u36 u37 u38 u39 u40 u41 u42 u43 u44 u45 : Value) (k ak : Nat), ac = { tmps := #[.pointer (some ⟨d, 0, none⟩), .agg vv, undef, .pointer (some ⟨w.heap.size, 0, none⟩), .int .i64 0, .int .i64 (ak : Int), .int .i64 ((k : Int) - 1), .pointer (some ⟨d, 0, none⟩), .pointer (some ⟨d, 0, none⟩), .pointer (some ⟨d, 3, none⟩), .slice oa g.order.length oc, .int .i64 (g.order.length : Int), .pointer (some ⟨d, 0, none⟩), .pointer (some ⟨d, 0, none⟩), .pointer (some ⟨d, 3, none⟩), .slice oa g.order.length oc, .int .i64 (g.order.length : Int), .int .i64 ((g.order.length : Int) - 1), u18, u19, u20, u21, u22, u23, u24, u25, u26, u27, u28, u29, u30, u31, u32, u33, u34, u35, u36, u37, u38, u39, u40, u41, u42, u43, u44, u45, undef], defers := [] } ∧ k ≤ g.order.length ∧ plc v g.order g.order.length g.order.length = plc v g.order k ak ∧ Below w1.heap.size w1 wr) (fun a _ => (intOf (a.tmps.getD 6 undef) + 1).toNat) ⟨0, undef, undef, undef, undef, undef, undef, undef, undef, undef, undef, undef, undef, undef, undef, undef, undef, undef, undef, undef, undef, undef, undef, undef, undef, undef, undef, undef, undef, g.order.length, g.order.length, rfl, by omega, rfl, Below.refl _ _⟩ ?_
 rintro ac wr ⟨t, u18, u19, u20, u21, u22, u23, u24, u25, u26, u27, u28, u29, u30, u31, u32, u33, u34, u35, u36, u37, u38, u39, u40, u41, u42, u43, u44, u45, k, ak, rfl, hk, hP, hB⟩
 have JB := Keep.mk hB
 have JP := Keep.mk hP
 clear hB hP
 have HDr := Keep.mk (HD1.out.below JB.out)
 have HRr := Keep.mk (HR1.out.below JB.out)
 have HXr := Keep.mk (HX1.out.below JB.out HX1.out.lt)
 rcases k with _ | m
 ·have hk0 : (((0 : Nat) : Int) - 1) = -1 := by omega
  rw [hk0]
  have hge : ¬ (0 : Int) ≤ -1 := by omega
  refine wp_seq_k fun K5 hK5 => ?_
  refine wp_seq_k fun K6 hK6 => ?_
  refine wp_region_held_drew (S := fun _ => True) (by kernel_rfl) (trivial) (fun hHeld => ?_)
  refine tkS (i := 0) (oi := ⟨some 18, Op.move (Operand.tmp 6), 3, _, _, none⟩) (v := .int .i64 (-1)) rfl (Or.inl ⟨by rfl, fun w hS => by go_simp⟩) hHeld ?_
  refine tkS (i := 1) (oi := ⟨some 19, Op.binOp BinOp.geq 3 (Operand.tmp 18) (Operand.const (Value.int IntKind.i64 0)) 3, 4, _, _, none⟩) (v := .bool false) rfl (Or.inl ⟨by rfl, fun w hS => by go_simp⟩) hHeld ?_
  refine tkS (i := 2) (oi := ⟨some 20, Op.move (Operand.tmp 19), 4, _, _, none⟩) (v := .bool false) rfl (Or.inl ⟨by rfl, fun w hS => by go_simp⟩) hHeld ?_
  refine tkS (i := 3) (oi := ⟨some 21, Op.load 39 (Operand.tmp 3), 39, _, _, some (2, true)⟩) (v := undef) rfl (Or.inr ⟨by rfl, rfl⟩) hHeld ?_
  refine tkS (i := 4) (oi := ⟨some 22, Op.move (Operand.tmp 0), 27, _, _, some (2, true)⟩) (v := undef) rfl (Or.inr ⟨by rfl, rfl⟩) hHeld ?_
  refine tkS (i := 5) (oi := ⟨some 23, Op.nilCheck (Operand.tmp 22), 0, _, _, some (2, true)⟩) (v := undef) rfl (Or.inr ⟨by rfl, rfl⟩) hHeld ?_
  refine tkS (i := 6) (oi := ⟨some 24, Op.fieldAddr 77 (Operand.tmp 23) 3, 0, _, _, some (2, true)⟩) (v := undef) rfl (Or.inr ⟨by rfl, rfl⟩) hHeld ?_
  refine tkS (i := 7) (oi := ⟨some 25, Op.load 37 (Operand.tmp 24), 37, _, _, some (2, true)⟩) (v := undef) rfl (Or.inr ⟨by rfl, rfl⟩) hHeld ?_
  refine tkS (i := 8) (oi := ⟨some 26, Op.move (Operand.tmp 6), 3, _, _, some (2, true)⟩) (v := undef) rfl (Or.inr ⟨by rfl, rfl⟩) hHeld ?_
  refine tkS (i := 9) (oi := ⟨some 27, Op.indexAddr 37 (Operand.tmp 25) (Operand.tmp 26), 0, _, _, some (2, true)⟩) (v := undef) rfl (Or.inr ⟨by rfl, rfl⟩) hHeld ?_
  refine tkS (i := 10) (oi := ⟨some 28, Op.load 36 (Operand.tmp 27), 36, _, _, some (2, true)⟩) (v := undef) rfl (Or.inr ⟨by rfl, rfl⟩) hHeld ?_
  refine tkS (i := 11) (oi := ⟨some 29, Op.call { callee := Callee.value (Operand.func 84), args := #[Operand.tmp 21, Operand.tmp 28], argTypes := #[39, 36] }, 4, _, _, some (2, true)⟩) (v := undef) rfl (Or.inr ⟨by rfl, rfl⟩) hHeld ?_
  refine tkS (i := 12) (oi := ⟨some 30, Op.unOp UnOp.not 4 (Operand.tmp 29), 4, _, _, some (2, true)⟩) (v := undef) rfl (Or.inr ⟨by rfl, rfl⟩) hHeld ?_
  refine tkS (i := 13) (oi := ⟨some 31, Op.pick (Operand.tmp 20) (Operand.tmp 30) (Operand.const (Value.bool false)), 4, _, _, none⟩) (v := .bool false) rfl (Or.inl ⟨by rfl, fun w hS => by go_simp⟩) hHeld ?_
  refine wpAnyH_done (by kernel_rfl) ?_ _
  refine hK6 _ _ ?_
  refine wp_cond_false rfl ?_
  refine wp_exit ?_
  refine hK3 _ _ ?_
  refine wp_seq_k fun K7 hK7 => rgn ?_
  refine VlS (.int .i64 (ak : Int)) ?_
  refine VlS (.int .i64 (ak : Int)) ?_
  refine WL.nil (hK7 _ _ ?_)
  refine wp_ret ?_
  go_ret
  refine ⟨?_, belowT LB1.out (belowT JB.out (Below.refl _ _).drew)⟩
  rw [JP.out]; rfl
 ·have hkm : (((m + 1 : Nat) : Int) - 1) = (m : Int) := by omega
  rw [hkm]
  have hge : (0 : Int) ≤ (m : Int) := by omega
  have hml : m < g.order.length := by omega
  have hml' : (m : Int) < (g.order.length : Int) := by omega
  have hwm1 : IntKind.i64.wrap ((m : Int) - 1) = (m : Int) - 1 := by rw [IntKind.wrap_i64]; have := HOl.out; omega
  obtain ⟨gp, op, hpa, _, _, hrg⟩ := (Hov.out ▸ HDr.out.oo.row : HRow wr (.slice oa g.order.length oc) g.order).at (by omega)
  have hel := rangeAt_elem hrg m hml
  obtain ⟨hh, hhh⟩ : ∃ hh, hh = g.order[m] := ⟨_, rfl⟩
  rw [← hhh] at hel
  have Jhh : Keep (g.order.getD m default = hh) := ⟨by rw [hhh, List.getD_eq_getElem?_getD, List.getElem?_eq_getElem hml, Option.getD_some]⟩
  have Hel := Keep.mk hel
  subst hpa
  clear hrg hhh hel hkm
  refine wp_seq_k fun K8 hK8 => ?_
  refine wp_seq_k fun K9 hK9 => ?_
  have hSB : Keep (∀ wx, Below wr.heap.size wr wx → (fun wx => wx.cell? ⟨d, 3, none⟩ = some (.slice (some ⟨gp, op, none⟩) g.order.length oc) ∧ wx.rangeAt gp (op + m * 32) (encH hh) ∧ wx.rangeAt w.heap.size 0 (bytesA 32 v.id.f).toList ∧ wx.rangeAt w.heap.size 0 vv.toList) wx) := ⟨fun wx hb => ⟨by have h := (HDr.out.blk.below hb HDr.out.blk.lt).c 3 (by rfl : (dgA g)[3]? = some g.ov); rw [Hov.out] at h; exact h, rangeAt_below Hel.out hb (rangeAt_ltE Hel.out), vtx_rng (hvv.out ▸ HXr.out.below hb HXr.out.lt), blk_rng (HXr.out.below hb HXr.out.lt)⟩⟩
  have B3 : Keep (Below wr.heap.size wr wr.drew) := ⟨(Below.refl _ _).drew⟩
  obtain ⟨nn, hnn⟩ : ∃ b, (!decide (hh ∈ v.ps)) = b := ⟨_, rfl⟩
  have Hnn := Keep.mk hnn
  obtain ⟨nb, hnb⟩ : ∃ b, decide (hh ∈ v.ps) = b := ⟨_, rfl⟩
  rw [hnb] at hnn
  have Hnb := Keep.mk hnb
  clear hnb
  refine wp_region_held_drew (S := fun wx => wx.cell? ⟨d, 3, none⟩ = some (.slice (some ⟨gp, op, none⟩) g.order.length oc) ∧ wx.rangeAt gp (op + m * 32) (encH hh) ∧ wx.rangeAt w.heap.size 0 (bytesA 32 v.id.f).toList ∧ wx.rangeAt w.heap.size 0 vv.toList) (by kernel_rfl) (hSB.out _ B3.out) (fun hHeld => ?_)
  refine tkS (i := 0) (oi := ⟨some 18, Op.move (Operand.tmp 6), 3, _, _, none⟩) (v := .int .i64 (m : Int)) rfl (Or.inl ⟨by rfl, fun w hS => by obtain ⟨hS1, hS2, hS3, hS4⟩ := hS; go_simp⟩) hHeld ?_
  refine tkS (i := 1) (oi := ⟨some 19, Op.binOp BinOp.geq 3 (Operand.tmp 18) (Operand.const (Value.int IntKind.i64 0)) 3, 4, _, _, none⟩) (v := .bool true) rfl (Or.inl ⟨by rfl, fun w hS => by obtain ⟨hS1, hS2, hS3, hS4⟩ := hS; go_simp⟩) hHeld ?_
  refine tkS (i := 2) (oi := ⟨some 20, Op.move (Operand.tmp 19), 4, _, _, none⟩) (v := .bool true) rfl (Or.inl ⟨by rfl, fun w hS => by obtain ⟨hS1, hS2, hS3, hS4⟩ := hS; go_simp⟩) hHeld ?_
  refine tkS (i := 3) (oi := ⟨some 21, Op.load 39 (Operand.tmp 3), 39, _, _, some (2, true)⟩) (v := .agg vv) rfl (yieldsIf_ld (by rfl) (Operand.tmp 3) 39 rfl w.heap.size 0 rfl vv _ Try.underlying39 rfl (by rw [hvv.out]; exact Try.info39s _ _ _) fun w hS => hS.2.2.2) hHeld ?_
  refine tkS (i := 4) (oi := ⟨some 22, Op.move (Operand.tmp 0), 27, _, _, some (2, true)⟩) (v := .pointer (some ⟨d, 0, none⟩)) rfl (Or.inl ⟨by rfl, fun w hS => by obtain ⟨hS1, hS2, hS3, hS4⟩ := hS; go_simp⟩) hHeld ?_
  refine tkS (i := 5) (oi := ⟨some 23, Op.nilCheck (Operand.tmp 22), 0, _, _, some (2, true)⟩) (v := .pointer (some ⟨d, 0, none⟩)) rfl (Or.inl ⟨by rfl, fun w hS => by obtain ⟨hS1, hS2, hS3, hS4⟩ := hS; go_simp⟩) hHeld ?_
  refine tkS (i := 6) (oi := ⟨some 24, Op.fieldAddr 77 (Operand.tmp 23) 3, 0, _, _, some (2, true)⟩) (v := .pointer (some ⟨d, 3, none⟩)) rfl (Or.inl ⟨by rfl, fun w hS => by obtain ⟨hS1, hS2, hS3, hS4⟩ := hS; go_simp⟩) hHeld ?_
  refine tkS (i := 7) (oi := ⟨some 25, Op.load 37 (Operand.tmp 24), 37, _, _, some (2, true)⟩) (v := .slice (some ⟨gp, op, none⟩) g.order.length oc) rfl (Or.inl ⟨by rfl, fun w hS => by obtain ⟨hS1, hS2, hS3, hS4⟩ := hS; go_simp⟩) hHeld ?_
  refine tkS (i := 8) (oi := ⟨some 26, Op.move (Operand.tmp 6), 3, _, _, some (2, true)⟩) (v := .int .i64 (m : Int)) rfl (Or.inl ⟨by rfl, fun w hS => by obtain ⟨hS1, hS2, hS3, hS4⟩ := hS; go_simp⟩) hHeld ?_
  refine tkS (i := 9) (oi := ⟨some 27, Op.indexAddr 37 (Operand.tmp 25) (Operand.tmp 26), 0, _, _, some (2, true)⟩) (v := .pointer (some ⟨gp, op + m * 32, none⟩)) rfl (Or.inl ⟨by rfl, fun w hS => by go_simp⟩) hHeld ?_
  refine tkS (i := 10) (oi := ⟨some 28, Op.load 36 (Operand.tmp 27), 36, _, _, some (2, true)⟩) (v := .agg (bytesA 32 hh.f)) rfl (yieldsIf_ldE (by rfl) (Operand.tmp 27) rfl gp (op + m * 32) rfl hh fun w hS => hS.2.1) hHeld ?_
  refine wpAnyH_ready (rs := [11]) (by kernel_rfl) (by simp) ?_
  refine AllReadyH.cons (o := ⟨some 29, Op.call { callee := Callee.value (Operand.func 84), args := #[Operand.tmp 21, Operand.tmp 28], argTypes := #[39, 36] }, 4, _, _, some (2, true)⟩) rfl (fun K hK => ?_) AllReadyH.nil
  rw [if_pos (by rfl)]
  have hnm := names_any v hh _ wr.drew (HRr.out.below (Below.refl _ _).drew) HI.out HL.out
  rw [← hvv.out, Hnb.out] at hnm
  refine wp_callF 84 _ _ rfl Try.in84 #[.agg vv, .agg (bytesA 32 hh.f)] (by simp [Act.eval]) (fun u wx => u = .bool nb ∧ Below wr.drew.heap.size wr.drew wx) (hnm.mono fun e w' h => ⟨_, h.1, rfl, h.2⟩) ?_
  clear hnm
  rintro _ w3 ⟨rfl, hb3⟩
  have B4 : Keep (Below wr.heap.size wr w3) := ⟨belowT B3.out hb3⟩
  refine hK _ _ (hSB.out _ B4.out) fun hH1 => ?_
  clear hK hb3
  simp only [Act.put, pqA, pqB, pqC]
  refine tkS (i := 12) (oi := ⟨some 30, Op.unOp UnOp.not 4 (Operand.tmp 29), 4, _, _, some (2, true)⟩) (v := .bool nn) rfl (Or.inl ⟨by rfl, fun w hS => by obtain ⟨hS1, hS2, hS3, hS4⟩ := hS; go_simp⟩) hH1 ?_
  refine tkS (i := 13) (oi := ⟨some 31, Op.pick (Operand.tmp 20) (Operand.tmp 30) (Operand.const (Value.bool false)), 4, _, _, none⟩) (v := .bool nn) rfl (Or.inl ⟨by rfl, fun w hS => by obtain ⟨hS1, hS2, hS3, hS4⟩ := hS; go_simp⟩) hH1 ?_
  refine wpAnyH_done (by kernel_rfl) ?_ _
  refine hK9 _ _ ?_
  rcases Bool.eq_false_or_eq_true nn with hnq | hnq
  ·subst hnq
   refine wp_cond_true rfl ?_
   refine wp_skip ?_
   refine hK8 _ _ ?_
   refine wp_seq_k fun K10 hK10 => ?_
   refine wp_block ?_
   refine wp_seq_k fun K11 hK11 => ?_
   have B5 : Keep (Below wr.heap.size wr w3.drew) := ⟨B4.out.drew⟩
   obtain ⟨cb, hcb⟩ : ∃ b, decide (cf v.id hh < 0) = b := ⟨_, rfl⟩
   have Hcb := Keep.mk hcb
   refine wp_region_held_drew (S := fun wx => wx.cell? ⟨d, 3, none⟩ = some (.slice (some ⟨gp, op, none⟩) g.order.length oc) ∧ wx.rangeAt gp (op + m * 32) (encH hh) ∧ wx.rangeAt w.heap.size 0 (bytesA 32 v.id.f).toList ∧ wx.rangeAt w.heap.size 0 vv.toList) (by kernel_rfl) (hSB.out _ B5.out) (fun hHeld => ?_)
   refine tkS (i := 0) (oi := ⟨some 34, Op.fieldAddr 39 (Operand.tmp 3) 0, 0, _, _, none⟩) (v := .pointer (some ⟨w.heap.size, 0, none⟩)) rfl (Or.inl ⟨by rfl, fun w hS => by obtain ⟨hS1, hS2, hS3, hS4⟩ := hS; go_simp⟩) hHeld ?_
   refine tkS (i := 1) (oi := ⟨some 35, Op.load 36 (Operand.tmp 34), 36, _, _, none⟩) (v := .agg (bytesA 32 v.id.f)) rfl (yieldsIf_ld (by rfl) (Operand.tmp 34) 36 rfl w.heap.size 0 rfl (bytesA 32 v.id.f) _ Try.underlying36 rfl (size36A _) fun w hS => hS.2.2.1) hHeld ?_
   refine tkS (i := 2) (oi := ⟨some 36, Op.move (Operand.tmp 0), 27, _, _, none⟩) (v := .pointer (some ⟨d, 0, none⟩)) rfl (Or.inl ⟨by rfl, fun w hS => by obtain ⟨hS1, hS2, hS3, hS4⟩ := hS; go_simp⟩) hHeld ?_
   refine tkS (i := 3) (oi := ⟨some 37, Op.nilCheck (Operand.tmp 36), 0, _, _, none⟩) (v := .pointer (some ⟨d, 0, none⟩)) rfl (Or.inl ⟨by rfl, fun w hS => by obtain ⟨hS1, hS2, hS3, hS4⟩ := hS; go_simp⟩) hHeld ?_
   refine tkS (i := 4) (oi := ⟨some 38, Op.fieldAddr 77 (Operand.tmp 37) 3, 0, _, _, none⟩) (v := .pointer (some ⟨d, 3, none⟩)) rfl (Or.inl ⟨by rfl, fun w hS => by obtain ⟨hS1, hS2, hS3, hS4⟩ := hS; go_simp⟩) hHeld ?_
   refine tkS (i := 5) (oi := ⟨some 39, Op.load 37 (Operand.tmp 38), 37, _, _, none⟩) (v := .slice (some ⟨gp, op, none⟩) g.order.length oc) rfl (Or.inl ⟨by rfl, fun w hS => by obtain ⟨hS1, hS2, hS3, hS4⟩ := hS; go_simp⟩) hHeld ?_
   refine tkS (i := 6) (oi := ⟨some 40, Op.move (Operand.tmp 6), 3, _, _, none⟩) (v := .int .i64 (m : Int)) rfl (Or.inl ⟨by rfl, fun w hS => by obtain ⟨hS1, hS2, hS3, hS4⟩ := hS; go_simp⟩) hHeld ?_
   refine tkS (i := 7) (oi := ⟨some 41, Op.indexAddr 37 (Operand.tmp 39) (Operand.tmp 40), 0, _, _, none⟩) (v := .pointer (some ⟨gp, op + m * 32, none⟩)) rfl (Or.inl ⟨by rfl, fun w hS => by go_simp⟩) hHeld ?_
   refine tkS (i := 8) (oi := ⟨some 42, Op.load 36 (Operand.tmp 41), 36, _, _, none⟩) (v := .agg (bytesA 32 hh.f)) rfl (yieldsIf_ldE (by rfl) (Operand.tmp 41) rfl gp (op + m * 32) rfl hh fun w hS => hS.2.1) hHeld ?_
   refine wpAnyH_ready (rs := [9]) (by kernel_rfl) (by simp) ?_
   refine AllReadyH.cons (o := ⟨some 43, Op.call { callee := Callee.value (Operand.func 86), args := #[Operand.tmp 35, Operand.tmp 42], argTypes := #[36, 36] }, 3, _, _, none⟩) rfl (fun K hK => ?_) AllReadyH.nil
   rw [if_pos (by rfl)]
   refine wp_callF 86 _ _ rfl Try.in86 #[.agg (bytesA 32 v.id.f), .agg (bytesA 32 hh.f)] (by simp [Act.eval]) _ (cmp_any v.id hh _) ?_
   rintro _ w6 ⟨rfl, hb6⟩
   have B6 : Keep (Below wr.heap.size wr w6) := ⟨belowT B5.out hb6⟩
   refine hK _ _ (hSB.out _ B6.out) fun hH1 => ?_
   clear hK hb6
   simp only [Act.put, pqA, pqB, pqC]
   refine tkS (i := 10) (oi := ⟨some 44, Op.binOp BinOp.lss 3 (Operand.tmp 43) (Operand.const (Value.int IntKind.i64 0)) 3, 4, _, _, none⟩) (v := .bool cb) rfl (Or.inl ⟨by rfl, fun w hS => by obtain ⟨hS1, hS2, hS3, hS4⟩ := hS; go_simp⟩) hH1 ?_
   refine wpAnyH_done (by kernel_rfl) ?_ _
   refine hK11 _ _ ?_
   rcases Bool.eq_false_or_eq_true cb with hcq | hcq
   ·subst hcq
    refine wp_cond_true rfl ?_
    refine rgn ?_
    refine VlS (.int .i64 (m : Int)) ?_
    refine VlS (.int .i64 (m : Int)) ?_
    refine WL.nil (hK10 _ _ ?_)
    refine rgn ?_
    refine VlS (.int .i64 (m : Int)) ?_
    refine VlS (.int .i64 ((m : Int) - 1)) ?_
    refine VlS (.int .i64 ((m : Int) - 1)) ?_
    refine WL.nil ?_
    have hnp : ¬ hh ∈ v.ps := by have h := Hnn.out; simpa using h
    have hc : cf v.id hh < 0 := of_decide_eq_true Hcb.out
    refine ⟨⟨0, .int .i64 (m : Int), .bool true, .bool true, .agg vv, .pointer (some ⟨d, 0, none⟩), .pointer (some ⟨d, 0, none⟩), .pointer (some ⟨d, 3, none⟩), .slice (some ⟨gp, op, none⟩) g.order.length oc, .int .i64 (m : Int), .pointer (some ⟨gp, op + m * 32, none⟩), .agg (bytesA 32 hh.f), .bool nb, .bool true, .bool true, .int .i64 (m : Int), .int .i64 ((m : Int) - 1), .pointer (some ⟨w.heap.size, 0, none⟩), .agg (bytesA 32 v.id.f), .pointer (some ⟨d, 0, none⟩), .pointer (some ⟨d, 0, none⟩), .pointer (some ⟨d, 3, none⟩), .slice (some ⟨gp, op, none⟩) g.order.length oc, .int .i64 (m : Int), .pointer (some ⟨gp, op + m * 32, none⟩), .agg (bytesA 32 hh.f), .int .i64 (cf v.id hh), .bool true, .int .i64 (m : Int), m, m, rfl, by omega, ?_, belowT JB.out B6.out⟩, ?_⟩
    ·rw [JP.out, plc, Jhh.out, if_neg hnp, if_pos hc]
    ·simp only [intOf]; show ((m : Int) - 1 + 1).toNat < ((m : Int) + 1).toNat; omega
   ·subst hcq
    refine wp_cond_false rfl ?_
    refine wp_skip ?_
    refine hK10 _ _ ?_
    refine rgn ?_
    refine VlS (.int .i64 (m : Int)) ?_
    refine VlS (.int .i64 ((m : Int) - 1)) ?_
    refine VlS (.int .i64 ((m : Int) - 1)) ?_
    refine WL.nil ?_
    have hnp : ¬ hh ∈ v.ps := by have h := Hnn.out; simpa using h
    have hc : ¬ cf v.id hh < 0 := of_decide_eq_false Hcb.out
    refine ⟨⟨0, .int .i64 (m : Int), .bool true, .bool true, .agg vv, .pointer (some ⟨d, 0, none⟩), .pointer (some ⟨d, 0, none⟩), .pointer (some ⟨d, 3, none⟩), .slice (some ⟨gp, op, none⟩) g.order.length oc, .int .i64 (m : Int), .pointer (some ⟨gp, op + m * 32, none⟩), .agg (bytesA 32 hh.f), .bool nb, .bool true, .bool true, .int .i64 (m : Int), .int .i64 ((m : Int) - 1), .pointer (some ⟨w.heap.size, 0, none⟩), .agg (bytesA 32 v.id.f), .pointer (some ⟨d, 0, none⟩), .pointer (some ⟨d, 0, none⟩), .pointer (some ⟨d, 3, none⟩), .slice (some ⟨gp, op, none⟩) g.order.length oc, .int .i64 (m : Int), .pointer (some ⟨gp, op + m * 32, none⟩), .agg (bytesA 32 hh.f), .int .i64 (cf v.id hh), .bool false, u45, m, ak, rfl, by omega, ?_, belowT JB.out B6.out⟩, ?_⟩
    ·rw [JP.out, plc, Jhh.out, if_neg hnp, if_neg hc]
    ·simp only [intOf]; show ((m : Int) - 1 + 1).toNat < ((m : Int) + 1).toNat; omega
  ·subst hnq
   refine wp_cond_false rfl ?_
   refine wp_exit ?_
   refine hK3 _ _ ?_
   refine wp_seq_k fun K12 hK12 => rgn ?_
   refine VlS (.int .i64 (ak : Int)) ?_
   refine VlS (.int .i64 (ak : Int)) ?_
   refine WL.nil (hK12 _ _ ?_)
   refine wp_ret ?_
   go_ret
   have hnp : hh ∈ v.ps := by have h := Hnn.out; simpa using h
   refine ⟨?_, belowT LB1.out (belowT JB.out B4.out)⟩
   rw [JP.out, plc, Jhh.out, if_pos hnp]; rfl
end Go.Proofs.Ytogmdfhicbmplaa
namespace Go.Proofs.Ytogmdfhicbmplaa
open Go.RowKit
set_option linter.unusedSimpArgs false
set_option linter.unusedVariables false

theorem Try.in29 (w : World) (vs : Array Value) : (callFunc 29 vs).run Try.prog w = .ok (.enter 29 vs) w := by kernel_rfl
set_option maxRecDepth 8000 in
theorem settle_absent (d : Nat) (x : Hs) (Av : Nat → Prop) (g : DG) (w : World) (hD : DagAt w Av d g) (hM : ∀ v ∈ g.held, 0 ≤ v.ck ∧ v.ck ≤ 4096) (hL : ∀ v, g.wait.find? (isV x) = some v → v.ps.length ≤ 4398046511104) (hE : rdyE g.held g.wait x = 6) : Calls Try.prog 29 #[ptr d, .agg (bytesA 32 x.f)] w fun e w' => e = .returned (.tuple #[.int .i64 0, .int .i64 6]) ∧ Below w.heap.size w w' := by
 have HD := Keep.mk hD
 have HM := Keep.mk hM
 have HL := Keep.mk hL
 have HE := Keep.mk hE
 clear hD hM hL hE
 go_enter Try.func29, Try.ntmps29
 refine wp_seq_k fun K1 hK1 => rgn ?_
 refine WL.box (by kernel_rfl) 36 (.tmp 1) rfl (bytesA 32 x.f) rfl ?_
 obtain ⟨w1, hwn⟩ : ∃ wx, Keep (wx = w.alloc (.cells (bytesA 32 x.f) 36)) := ⟨_, ⟨rfl⟩⟩
 rw [← hwn.out]
 have HX1 : Keep (Blk w1 w.heap.size 36 (bytesA 32 x.f)) := ⟨by rw [hwn.out]; exact Blk.new _ _ _⟩
 have LB1 : Keep (Below w.heap.size w w1) := ⟨by rw [hwn.out]; exact below_new _ _⟩
 clear hwn
 have HD1 := Keep.mk (HD.out.below LB1.out)
 simp only [Act.put, pqA, pqB, pqC]
 refine VlS (.int .i64 0) ?_
 refine VlS (.int .i64 0) ?_
 refine WL.nil (hK1 _ _ ?_)
 refine wp_seq_k fun K2 hK2 => rgn ?_
 refine VlS (.pointer (some ⟨d, 0, none⟩)) ?_
 refine WL.row (by kernel_rfl) 36 (.tmp 3) rfl w.heap.size rfl 36 (bytesA 32 x.f) _ HX1.out Try.underlying36 rfl (Try.size36B _) ?_
 simp only [Act.put, pqA, pqB, pqC]
 have hrd := ready_any d x Av g w1 HD1.out HM.out HL.out
 rw [HE.out] at hrd
 refine WL.callF (by kernel_rfl) 40 _ _ rfl Try.in40 #[ptr d, .agg (bytesA 32 x.f)] (by simp [Act.eval]) ?_
 refine (hrd).mono ?_
 rintro e w2 ⟨rfl, hz⟩
 refine ⟨_, rfl, ?_⟩
 clear hrd
 have HX2 := Keep.mk (HX1.out.below hz HX1.out.lt)
 have LB2 := Keep.mk (belowT LB1.out hz)
 have HD2 := Keep.mk (HD1.out.below hz)
 clear hz HX1 HD1
 simp only [Act.put, pqA, pqB, pqC]
 refine VlS (.int .i64 6) ?_
 refine WL.nil (hK2 _ _ ?_)
 refine wp_seq_k fun K3 hK3 => ?_
 refine wp_seq_k fun K4 hK4 => rgn ?_
 refine VlS (.int .i64 6) ?_
 refine VlS (.bool true) ?_
 refine VlS (.bool true) ?_
 refine SkS ?_
 refine SkS ?_
 refine VlS (.bool true) ?_
 refine WL.nil (hK4 _ _ ?_)
 refine wp_cond_true rfl ?_
 refine wp_seq_k fun K5 hK5 => rgn ?_
 refine VlS (.int .i64 6) ?_
 refine VlS (.int .i64 0) ?_
 refine VlS (.int .i64 6) ?_
 refine WL.nil (hK5 _ _ ?_)
 refine wp_ret ?_
 go_ret2
 exact ⟨rfl, LB2.out⟩
set_option maxRecDepth 8000 in
theorem settle_state (d : Nat) (x : Hs) (Av : Nat → Prop) (g : DG) (w : World) (hD : DagAt w Av d g) (hM : ∀ v ∈ g.held, 0 ≤ v.ck ∧ v.ck ≤ 4096) (hL : ∀ v, g.wait.find? (isV x) = some v → v.ps.length ≤ 4398046511104) (hE : rdyE g.held g.wait x = 9) : Calls Try.prog 29 #[ptr d, .agg (bytesA 32 x.f)] w fun e w' => e = .returned (.tuple #[.int .i64 0, .int .i64 9]) ∧ Below w.heap.size w w' := by
 have HD := Keep.mk hD
 have HM := Keep.mk hM
 have HL := Keep.mk hL
 have HE := Keep.mk hE
 clear hD hM hL hE
 go_enter Try.func29, Try.ntmps29
 refine wp_seq_k fun K1 hK1 => rgn ?_
 refine WL.box (by kernel_rfl) 36 (.tmp 1) rfl (bytesA 32 x.f) rfl ?_
 obtain ⟨w1, hwn⟩ : ∃ wx, Keep (wx = w.alloc (.cells (bytesA 32 x.f) 36)) := ⟨_, ⟨rfl⟩⟩
 rw [← hwn.out]
 have HX1 : Keep (Blk w1 w.heap.size 36 (bytesA 32 x.f)) := ⟨by rw [hwn.out]; exact Blk.new _ _ _⟩
 have LB1 : Keep (Below w.heap.size w w1) := ⟨by rw [hwn.out]; exact below_new _ _⟩
 clear hwn
 have HD1 := Keep.mk (HD.out.below LB1.out)
 simp only [Act.put, pqA, pqB, pqC]
 refine VlS (.int .i64 0) ?_
 refine VlS (.int .i64 0) ?_
 refine WL.nil (hK1 _ _ ?_)
 refine wp_seq_k fun K2 hK2 => rgn ?_
 refine VlS (.pointer (some ⟨d, 0, none⟩)) ?_
 refine WL.row (by kernel_rfl) 36 (.tmp 3) rfl w.heap.size rfl 36 (bytesA 32 x.f) _ HX1.out Try.underlying36 rfl (Try.size36B _) ?_
 simp only [Act.put, pqA, pqB, pqC]
 have hrd := ready_any d x Av g w1 HD1.out HM.out HL.out
 rw [HE.out] at hrd
 refine WL.callF (by kernel_rfl) 40 _ _ rfl Try.in40 #[ptr d, .agg (bytesA 32 x.f)] (by simp [Act.eval]) ?_
 refine (hrd).mono ?_
 rintro e w2 ⟨rfl, hz⟩
 refine ⟨_, rfl, ?_⟩
 clear hrd
 have HX2 := Keep.mk (HX1.out.below hz HX1.out.lt)
 have LB2 := Keep.mk (belowT LB1.out hz)
 have HD2 := Keep.mk (HD1.out.below hz)
 clear hz HX1 HD1
 simp only [Act.put, pqA, pqB, pqC]
 refine VlS (.int .i64 9) ?_
 refine WL.nil (hK2 _ _ ?_)
 refine wp_seq_k fun K3 hK3 => ?_
 refine wp_seq_k fun K4 hK4 => rgn ?_
 refine VlS (.int .i64 9) ?_
 refine VlS (.bool false) ?_
 refine VlS (.bool false) ?_
 refine VlS (.int .i64 9) ?_
 refine VlS (.bool true) ?_
 refine VlS (.bool true) ?_
 refine WL.nil (hK4 _ _ ?_)
 refine wp_cond_true rfl ?_
 refine wp_seq_k fun K5 hK5 => rgn ?_
 refine VlS (.int .i64 9) ?_
 refine VlS (.int .i64 0) ?_
 refine VlS (.int .i64 9) ?_
 refine WL.nil (hK5 _ _ ?_)
 refine wp_ret ?_
 go_ret2
 exact ⟨rfl, LB2.out⟩
set_option maxRecDepth 8000 in
set_option maxHeartbeats 1000000 in
theorem settle_goes (d : Nat) (x : Hs) (Av : Nat → Prop) (g : DG) (w : World) (ee : Int) (hD : DagAt w Av d g) (hM : ∀ v ∈ g.held, 0 ≤ v.ck ∧ v.ck ≤ 4096) (hL : ∀ v, g.wait.find? (isV x) = some v → v.ps.length ≤ 4398046511104) (v : VX) (hF : g.wait.find? (isV x) = some v) (hQ : hasB g.wait x = true → ∃ i : Nat, i < g.queue.length ∧ ixF x g.queue 0 = (i : Int)) (hQl : g.queue.length ≤ 1000000000) (hE : rdyE g.held g.wait x = ee) (hN : ¬ ee = 6 ∧ ¬ ee = 9 ∧ ¬ ee = 0) : Calls Try.prog 29 #[ptr d, .agg (bytesA 32 x.f)] w fun e w' => e = .returned (.tuple #[.int .i64 0, .int .i64 ee]) ∧ ∃ (i : Nat) (g' : DG), ixF x g.queue 0 = (i : Int) ∧ Ste w w' Av d g g' ∧ g'.room = g.room ∧ g'.held = g.held ∧ g'.wait = g.wait.eraseP (isV x) ∧ g'.queue = g.queue.take i ++ g.queue.drop (i + 1) ∧ g'.order = g.order ∧ g'.heads = g.heads := by
 have HD := Keep.mk hD
 have HM := Keep.mk hM
 have HL := Keep.mk hL
 have HE := Keep.mk hE
 have HF := Keep.mk hF
 have HQ := Keep.mk hQ
 have HQl := Keep.mk hQl
 have HN := Keep.mk hN
 clear hD hM hL hE hF hQ hQl hN
 go_enter Try.func29, Try.ntmps29
 refine wp_seq_k fun K1 hK1 => rgn ?_
 refine WL.box (by kernel_rfl) 36 (.tmp 1) rfl (bytesA 32 x.f) rfl ?_
 obtain ⟨w1, hwn⟩ : ∃ wx, Keep (wx = w.alloc (.cells (bytesA 32 x.f) 36)) := ⟨_, ⟨rfl⟩⟩
 rw [← hwn.out]
 have HX1 : Keep (Blk w1 w.heap.size 36 (bytesA 32 x.f)) := ⟨by rw [hwn.out]; exact Blk.new _ _ _⟩
 have LB1 : Keep (Below w.heap.size w w1) := ⟨by rw [hwn.out]; exact below_new _ _⟩
 clear hwn
 have HD1 := Keep.mk (HD.out.below LB1.out)
 simp only [Act.put, pqA, pqB, pqC]
 refine VlS (.int .i64 0) ?_
 refine VlS (.int .i64 0) ?_
 refine WL.nil (hK1 _ _ ?_)
 refine wp_seq_k fun K2 hK2 => rgn ?_
 refine VlS (.pointer (some ⟨d, 0, none⟩)) ?_
 refine WL.row (by kernel_rfl) 36 (.tmp 3) rfl w.heap.size rfl 36 (bytesA 32 x.f) _ HX1.out Try.underlying36 rfl (Try.size36B _) ?_
 simp only [Act.put, pqA, pqB, pqC]
 have hrd := ready_any d x Av g w1 HD1.out HM.out HL.out
 rw [HE.out] at hrd
 refine WL.callF (by kernel_rfl) 40 _ _ rfl Try.in40 #[ptr d, .agg (bytesA 32 x.f)] (by simp [Act.eval]) ?_
 refine (hrd).mono ?_
 rintro e w2 ⟨rfl, hz⟩
 refine ⟨_, rfl, ?_⟩
 clear hrd
 have HX2 := Keep.mk (HX1.out.below hz HX1.out.lt)
 have LB2 := Keep.mk (belowT LB1.out hz)
 have HD2 := Keep.mk (HD1.out.below hz)
 clear hz HX1 HD1
 simp only [Act.put, pqA, pqB, pqC]
 refine VlS (.int .i64 ee) ?_
 refine WL.nil (hK2 _ _ ?_)
 refine wp_seq_k fun K3 hK3 => ?_
 refine wp_seq_k fun K4 hK4 => ?_
 have hn6 := HN.out.1
 have hn9 := HN.out.2.1
 have hn0 := HN.out.2.2
 refine rgn ?_
 refine VlS (.int .i64 ee) ?_
 refine VlS (.bool false) ?_
 refine VlS (.bool false) ?_
 refine VlS (.int .i64 ee) ?_
 refine VlS (.bool false) ?_
 refine VlS (.bool false) ?_
 refine WL.nil (hK4 _ _ ?_)
 refine wp_cond_false rfl ?_
 refine wp_skip ?_
 refine hK3 _ _ ?_
 refine wp_seq_k fun K5 hK5 => ?_
 obtain ⟨es, ck, c0, k0, pa, pn, pm, hes, hl1, hl2, hcs⟩ := look1 HD2.out.wait x
 obtain ⟨vv, hvv⟩ : ∃ a : Array Value, Keep (a = vtx c0 k0 (.slice pa pn pm)) := ⟨_, ⟨rfl⟩⟩
 obtain ⟨vz, hvz⟩ : ∃ a : Array Value, Keep (a = vtx (fun _ => 0) 0 (.slice none 0 0)) := ⟨_, ⟨rfl⟩⟩
 rw [← hvv.out] at hl2
 have H1 := Keep.mk hl2
 have HC : Keep (c0 = v.id.f ∧ k0 = v.ck ∧ HRow w2 (.slice pa pn pm) v.ps ∧ ∀ k, (Value.slice pa pn pm).ownBlock = some k → k < w2.heap.size ∧ ¬ Av k) := ⟨hcs.elim (fun h => absurd (HF.out.symm.trans h.1) (by simp)) fun ⟨v', h, h2, h3, h4, h5⟩ => by cases Option.some.inj (HF.out.symm.trans h); exact ⟨h2, h3, h4, h5⟩⟩
 have hSB : Keep (∀ wx, Below w2.heap.size w2 wx → (fun wx => wx.cell? ⟨d, 4, none⟩ = some (.map (some g.wb)) ∧ wx.rangeAt w.heap.size 0 (bytesA 32 x.f).toList ∧ wx.heap[g.wb]? = some (.map es ck)) wx) := ⟨fun wx hb => ⟨(HD2.out.blk.below hb HD2.out.blk.lt).c 4 rfl, blk_rng (HX2.out.below hb HX2.out.lt), by rw [hb.block _ (Array.getElem?_eq_some_iff.1 hes).1]; exact hes⟩⟩
 have B3 : Keep (Below w2.heap.size w2 w2.drew) := ⟨(Below.refl _ _).drew⟩
 clear hl1 hl2 hcs hes
 refine wp_region_held_drew (S := fun wx => wx.cell? ⟨d, 4, none⟩ = some (.map (some g.wb)) ∧ wx.rangeAt w.heap.size 0 (bytesA 32 x.f).toList ∧ wx.heap[g.wb]? = some (.map es ck)) (by kernel_rfl) (hSB.out _ B3.out) (fun hHeld => ?_)
 refine tkS (i := 0) (oi := ⟨some 18, Op.move (Operand.tmp 0), 27, _, _, none⟩) (v := .pointer (some ⟨d, 0, none⟩)) rfl (Or.inl ⟨by rfl, fun w hS => by obtain ⟨hS1, hS2, hS3⟩ := hS; go_simp⟩) hHeld ?_
 refine tkS (i := 1) (oi := ⟨some 19, Op.nilCheck (Operand.tmp 18), 0, _, _, none⟩) (v := .pointer (some ⟨d, 0, none⟩)) rfl (Or.inl ⟨by rfl, fun w hS => by obtain ⟨hS1, hS2, hS3⟩ := hS; go_simp⟩) hHeld ?_
 refine tkS (i := 2) (oi := ⟨some 20, Op.fieldAddr 77 (Operand.tmp 19) 4, 0, _, _, none⟩) (v := .pointer (some ⟨d, 4, none⟩)) rfl (Or.inl ⟨by rfl, fun w hS => by obtain ⟨hS1, hS2, hS3⟩ := hS; go_simp⟩) hHeld ?_
 refine tkS (i := 3) (oi := ⟨some 21, Op.load 75 (Operand.tmp 20), 75, _, _, none⟩) (v := .map (some g.wb)) rfl (Or.inl ⟨by rfl, fun w hS => by obtain ⟨hS1, hS2, hS3⟩ := hS; go_simp⟩) hHeld ?_
 refine tkS (i := 4) (oi := ⟨some 22, Op.load 36 (Operand.tmp 3), 36, _, _, none⟩) (v := .agg (bytesA 32 x.f)) rfl (yieldsIf_ld (by rfl) (Operand.tmp 3) 36 rfl w.heap.size 0 rfl (bytesA 32 x.f) _ Try.underlying36 rfl (size36A _) fun w hS => hS.2.1) hHeld ?_
 refine tkS (i := 5) (oi := ⟨some 23, Op.lookup 75 (Operand.tmp 21) (Operand.tmp 22) false, 39, _, _, none⟩) (v := .agg vv) rfl (yieldsIf_look (by rfl) (Operand.tmp 21) (Operand.tmp 22) false rfl g.wb x.f rfl rfl _ fun wx hS => H1.out wx hS.2.2) hHeld ?_
 refine wpAnyH_ready (rs := [6]) (by kernel_rfl) (by simp) ?_
 refine AllReadyH.cons (o := ⟨some 7, Op.alloc 39, 0, _, _, none⟩) rfl (fun K hK => ?_) AllReadyH.nil
 rw [if_pos (by rfl)]
 refine wp_newA 39 rfl vz (by rw [hvz.out]; exact Try.new39) ?_
 have B4 := Keep.mk (B3.out.alloc (Nat.le_refl _) (.cells vz 39))
 obtain ⟨w4, hw4⟩ : ∃ wx, Keep (wx = w2.drew.alloc (.cells vz 39)) := ⟨_, ⟨rfl⟩⟩
 rw [← hw4.out]
 have HB4 : Keep (Blk w4 w2.drew.heap.size 39 vz) := ⟨by rw [hw4.out]; exact Blk.new _ _ _⟩
 have B4 : Keep (Below w2.heap.size w2 w4) := ⟨by rw [hw4.out]; exact B4.out⟩
 have hL4 : Keep (w2.heap.size ≤ w2.drew.heap.size) := ⟨Nat.le_refl _⟩
 clear hw4
 generalize w2.drew.heap.size = n1 at *
 refine hK _ _ (hSB.out _ B4.out) fun hH1 => ?_
 clear hK
 simp only [Act.put, pqA, pqB, pqC]
 refine wpAnyH_ready (rs := [7]) (by kernel_rfl) (by simp) ?_
 refine AllReadyH.cons (o := ⟨none, Op.store 39 (Operand.tmp 7) (Operand.tmp 23), 0, _, _, none⟩) rfl (fun K hK => ?_) AllReadyH.nil
 rw [if_pos (by rfl)]
 refine wp_store_row 39 (Operand.tmp 7) (Operand.tmp 23) rfl n1 vv rfl rfl 39 vz HB4.out (by rw [hvv.out]; exact Try.info39s _ _ _) (by rw [hvv.out, hvz.out, vtx_size, vtx_size]) (by rw [hvv.out]; exact vtx_one _ _ _ (slice_one _ _ _)) ?_
 have B5 := Keep.mk (below_setRow B4.out hL4.out vv)
 have HV5 := Keep.mk (HB4.out.setRow vv)
 refine hK _ _ (hSB.out _ B5.out) fun hH2 => ?_
 generalize w4.setRow n1 vv = w5 at *
 have HD5 := Keep.mk (HD2.out.below B5.out)
 have HX5 := Keep.mk (HX2.out.below B5.out HX2.out.lt)
 have LB5 := Keep.mk (belowT LB2.out B5.out)
 have HR5 := Keep.mk (HC.out.2.2.1.below B5.out)
 have HA5 : Keep (∀ k, (Value.slice pa pn pm).ownBlock = some k → k < w5.heap.size ∧ ¬ Av k) := ⟨fun k hk => ⟨Nat.lt_of_lt_of_le (HC.out.2.2.2 k hk).1 B5.out.size, (HC.out.2.2.2 k hk).2⟩⟩
 have NV : Keep (¬ DgS d g n1) := ⟨fun e => by have := HD2.out.lt n1 (HD2.out.av n1 e); have := hL4.out; omega⟩
 clear hK hH1 HB4 B4 B3 hSB
 simp only [Act.put, pqA, pqB, pqC]
 refine wpAnyH_done (by kernel_rfl) ?_ _
 refine hK5 _ _ ?_
 refine wp_seq_k fun K6 hK6 => rgn ?_
 refine VlS (.pointer (some ⟨d, 0, none⟩)) ?_
 refine WL.row (by kernel_rfl) 36 (.tmp 3) rfl w.heap.size rfl 36 (bytesA 32 x.f) _ HX5.out Try.underlying36 rfl (Try.size36B _) ?_
 simp only [Act.put, pqA, pqB, pqC]
 have hfg := forget_any d x Av g w5 HD5.out HQ.out HQl.out
 refine WL.callF (by kernel_rfl) 43 _ _ rfl Try.in43 #[ptr d, .agg (bytesA 32 x.f)] (by simp [Act.eval]) ?_
 refine (hfg.mono (R' := fun e w' => e = .returned (.bool true) ∧ ∃ i : Nat, ixF x g.queue 0 = (i : Int) ∧ ∃ g', Ste w5 w' Av d g g' ∧ g'.room = g.room ∧ g'.held = g.held ∧ g'.wait = g.wait.eraseP (isV x) ∧ g'.queue = g.queue.take i ++ g.queue.drop (i + 1) ∧ g'.order = g.order ∧ g'.heads = g.heads) (fun e w' h => h.elim (fun h => by have h1 := h.1; rw [hasB, HF.out] at h1; cases h1) fun ⟨_, h2, i, _, h4, h5⟩ => ⟨h2, i, h4, h5⟩)).mono ?_
 rintro e w6 ⟨rfl, i, hi, g6, hs, hg⟩
 refine ⟨_, rfl, ?_⟩
 clear hfg
 have HS6 := Keep.mk hs
 have HG6 := Keep.mk hg
 have Hi6 := Keep.mk hi
 have HV6 := Keep.mk (hs.grown.blk HV5.out NV.out)
 clear hs hg hi
 simp only [Act.put, pqA, pqB, pqC]
 refine WL.nil (hK6 _ _ ?_)
 refine wp_seq_k fun K7 hK7 => ?_
 refine wp_seq_k fun K8 hK8 => rgn ?_
 refine VlS (.int .i64 ee) ?_
 refine VlS (.bool true) ?_
 refine WL.nil (hK8 _ _ ?_)
 refine wp_cond_true rfl ?_
 refine wp_seq_k fun K9 hK9 => rgn ?_
 refine VlS (.int .i64 ee) ?_
 refine VlS (.int .i64 0) ?_
 refine VlS (.int .i64 ee) ?_
 refine WL.nil (hK9 _ _ ?_)
 refine wp_ret ?_
 go_ret2
 exact ⟨rfl, i, g6, Hi6.out, ⟨HS6.out.at', (Grown.below (S := DgS d g) LB5.out).trans HS6.out.grown, fun k hk => (HS6.out.sub k hk).imp id fun h => Nat.le_trans LB5.out.size h⟩, HG6.out⟩
set_option maxRecDepth 8000 in
set_option maxHeartbeats 1000000 in
theorem settle_took (d : Nat) (x : Hs) (Av : Nat → Prop) (g : DG) (w : World) (X : DG → Prop) (hD : DagAt w Av d g) (hM : ∀ v ∈ g.held, 0 ≤ v.ck ∧ v.ck ≤ 4096) (hL : ∀ v, g.wait.find? (isV x) = some v → v.ps.length ≤ 4398046511104) (v : VX) (hF : g.wait.find? (isV x) = some v) (hQ : hasB g.wait x = true → ∃ i : Nat, i < g.queue.length ∧ ixF x g.queue 0 = (i : Int)) (hQl : g.queue.length ≤ 1000000000) (hE : rdyE g.held g.wait x = 0)
  (hT : ∀ (w1 : World) (p1 : Value) (Av1 : Nat → Prop) (g1 : DG), DagAt w1 Av1 d g1 → ∀ i : Nat, ixF x g.queue 0 = (i : Int) → (g1.room = g.room ∧ g1.held = g.held ∧ g1.wait = g.wait.eraseP (isV x) ∧ g1.queue = g.queue.take i ++ g.queue.drop (i + 1) ∧ g1.order = g.order ∧ g1.heads = g.heads) → HRow w1 p1 v.ps → (∀ k, p1.ownBlock = some k → k < w1.heap.size ∧ ¬ Av1 k) → Calls Try.prog 58 #[ptr d, .agg (vtx v.id.f v.ck p1)] w1 fun e w' => e = .returned (.tuple #[]) ∧ ∃ g', Ste w1 w' Av1 d g1 g' ∧ X g') :
  Calls Try.prog 29 #[ptr d, .agg (bytesA 32 x.f)] w fun e w' => e = .returned (.tuple #[.int .i64 2, .int .i64 0]) ∧ ∃ g', Ste w w' Av d g g' ∧ X g' := by
 have HD := Keep.mk hD
 have HM := Keep.mk hM
 have HL := Keep.mk hL
 have HE := Keep.mk hE
 have HF := Keep.mk hF
 have HQ := Keep.mk hQ
 have HQl := Keep.mk hQl
 have HT := Keep.mk hT
 clear hD hM hL hE hF hQ hQl hT
 go_enter Try.func29, Try.ntmps29
 refine wp_seq_k fun K1 hK1 => rgn ?_
 refine WL.box (by kernel_rfl) 36 (.tmp 1) rfl (bytesA 32 x.f) rfl ?_
 obtain ⟨w1, hwn⟩ : ∃ wx, Keep (wx = w.alloc (.cells (bytesA 32 x.f) 36)) := ⟨_, ⟨rfl⟩⟩
 rw [← hwn.out]
 have HX1 : Keep (Blk w1 w.heap.size 36 (bytesA 32 x.f)) := ⟨by rw [hwn.out]; exact Blk.new _ _ _⟩
 have LB1 : Keep (Below w.heap.size w w1) := ⟨by rw [hwn.out]; exact below_new _ _⟩
 clear hwn
 have HD1 := Keep.mk (HD.out.below LB1.out)
 simp only [Act.put, pqA, pqB, pqC]
 refine VlS (.int .i64 0) ?_
 refine VlS (.int .i64 0) ?_
 refine WL.nil (hK1 _ _ ?_)
 refine wp_seq_k fun K2 hK2 => rgn ?_
 refine VlS (.pointer (some ⟨d, 0, none⟩)) ?_
 refine WL.row (by kernel_rfl) 36 (.tmp 3) rfl w.heap.size rfl 36 (bytesA 32 x.f) _ HX1.out Try.underlying36 rfl (Try.size36B _) ?_
 simp only [Act.put, pqA, pqB, pqC]
 have hrd := ready_any d x Av g w1 HD1.out HM.out HL.out
 rw [HE.out] at hrd
 refine WL.callF (by kernel_rfl) 40 _ _ rfl Try.in40 #[ptr d, .agg (bytesA 32 x.f)] (by simp [Act.eval]) ?_
 refine (hrd).mono ?_
 rintro e w2 ⟨rfl, hz⟩
 refine ⟨_, rfl, ?_⟩
 clear hrd
 have HX2 := Keep.mk (HX1.out.below hz HX1.out.lt)
 have LB2 := Keep.mk (belowT LB1.out hz)
 have HD2 := Keep.mk (HD1.out.below hz)
 clear hz HX1 HD1
 simp only [Act.put, pqA, pqB, pqC]
 refine VlS (.int .i64 0) ?_
 refine WL.nil (hK2 _ _ ?_)
 refine wp_seq_k fun K3 hK3 => ?_
 refine wp_seq_k fun K4 hK4 => rgn ?_
 refine VlS (.int .i64 0) ?_
 refine VlS (.bool false) ?_
 refine VlS (.bool false) ?_
 refine VlS (.int .i64 0) ?_
 refine VlS (.bool false) ?_
 refine VlS (.bool false) ?_
 refine WL.nil (hK4 _ _ ?_)
 refine wp_cond_false rfl ?_
 refine wp_skip ?_
 refine hK3 _ _ ?_
 refine wp_seq_k fun K5 hK5 => ?_
 obtain ⟨es, ck, c0, k0, pa, pn, pm, hes, hl1, hl2, hcs⟩ := look1 HD2.out.wait x
 obtain ⟨vv, hvv⟩ : ∃ a : Array Value, Keep (a = vtx c0 k0 (.slice pa pn pm)) := ⟨_, ⟨rfl⟩⟩
 obtain ⟨vz, hvz⟩ : ∃ a : Array Value, Keep (a = vtx (fun _ => 0) 0 (.slice none 0 0)) := ⟨_, ⟨rfl⟩⟩
 rw [← hvv.out] at hl2
 have H1 := Keep.mk hl2
 have HC : Keep (c0 = v.id.f ∧ k0 = v.ck ∧ HRow w2 (.slice pa pn pm) v.ps ∧ ∀ k, (Value.slice pa pn pm).ownBlock = some k → k < w2.heap.size ∧ ¬ Av k) := ⟨hcs.elim (fun h => absurd (HF.out.symm.trans h.1) (by simp)) fun ⟨v', h, h2, h3, h4, h5⟩ => by cases Option.some.inj (HF.out.symm.trans h); exact ⟨h2, h3, h4, h5⟩⟩
 have hSB : Keep (∀ wx, Below w2.heap.size w2 wx → (fun wx => wx.cell? ⟨d, 4, none⟩ = some (.map (some g.wb)) ∧ wx.rangeAt w.heap.size 0 (bytesA 32 x.f).toList ∧ wx.heap[g.wb]? = some (.map es ck)) wx) := ⟨fun wx hb => ⟨(HD2.out.blk.below hb HD2.out.blk.lt).c 4 rfl, blk_rng (HX2.out.below hb HX2.out.lt), by rw [hb.block _ (Array.getElem?_eq_some_iff.1 hes).1]; exact hes⟩⟩
 have B3 : Keep (Below w2.heap.size w2 w2.drew) := ⟨(Below.refl _ _).drew⟩
 clear hl1 hl2 hcs hes
 refine wp_region_held_drew (S := fun wx => wx.cell? ⟨d, 4, none⟩ = some (.map (some g.wb)) ∧ wx.rangeAt w.heap.size 0 (bytesA 32 x.f).toList ∧ wx.heap[g.wb]? = some (.map es ck)) (by kernel_rfl) (hSB.out _ B3.out) (fun hHeld => ?_)
 refine tkS (i := 0) (oi := ⟨some 18, Op.move (Operand.tmp 0), 27, _, _, none⟩) (v := .pointer (some ⟨d, 0, none⟩)) rfl (Or.inl ⟨by rfl, fun w hS => by obtain ⟨hS1, hS2, hS3⟩ := hS; go_simp⟩) hHeld ?_
 refine tkS (i := 1) (oi := ⟨some 19, Op.nilCheck (Operand.tmp 18), 0, _, _, none⟩) (v := .pointer (some ⟨d, 0, none⟩)) rfl (Or.inl ⟨by rfl, fun w hS => by obtain ⟨hS1, hS2, hS3⟩ := hS; go_simp⟩) hHeld ?_
 refine tkS (i := 2) (oi := ⟨some 20, Op.fieldAddr 77 (Operand.tmp 19) 4, 0, _, _, none⟩) (v := .pointer (some ⟨d, 4, none⟩)) rfl (Or.inl ⟨by rfl, fun w hS => by obtain ⟨hS1, hS2, hS3⟩ := hS; go_simp⟩) hHeld ?_
 refine tkS (i := 3) (oi := ⟨some 21, Op.load 75 (Operand.tmp 20), 75, _, _, none⟩) (v := .map (some g.wb)) rfl (Or.inl ⟨by rfl, fun w hS => by obtain ⟨hS1, hS2, hS3⟩ := hS; go_simp⟩) hHeld ?_
 refine tkS (i := 4) (oi := ⟨some 22, Op.load 36 (Operand.tmp 3), 36, _, _, none⟩) (v := .agg (bytesA 32 x.f)) rfl (yieldsIf_ld (by rfl) (Operand.tmp 3) 36 rfl w.heap.size 0 rfl (bytesA 32 x.f) _ Try.underlying36 rfl (size36A _) fun w hS => hS.2.1) hHeld ?_
 refine tkS (i := 5) (oi := ⟨some 23, Op.lookup 75 (Operand.tmp 21) (Operand.tmp 22) false, 39, _, _, none⟩) (v := .agg vv) rfl (yieldsIf_look (by rfl) (Operand.tmp 21) (Operand.tmp 22) false rfl g.wb x.f rfl rfl _ fun wx hS => H1.out wx hS.2.2) hHeld ?_
 refine wpAnyH_ready (rs := [6]) (by kernel_rfl) (by simp) ?_
 refine AllReadyH.cons (o := ⟨some 7, Op.alloc 39, 0, _, _, none⟩) rfl (fun K hK => ?_) AllReadyH.nil
 rw [if_pos (by rfl)]
 refine wp_newA 39 rfl vz (by rw [hvz.out]; exact Try.new39) ?_
 have B4 := Keep.mk (B3.out.alloc (Nat.le_refl _) (.cells vz 39))
 obtain ⟨w4, hw4⟩ : ∃ wx, Keep (wx = w2.drew.alloc (.cells vz 39)) := ⟨_, ⟨rfl⟩⟩
 rw [← hw4.out]
 have HB4 : Keep (Blk w4 w2.drew.heap.size 39 vz) := ⟨by rw [hw4.out]; exact Blk.new _ _ _⟩
 have B4 : Keep (Below w2.heap.size w2 w4) := ⟨by rw [hw4.out]; exact B4.out⟩
 have hL4 : Keep (w2.heap.size ≤ w2.drew.heap.size) := ⟨Nat.le_refl _⟩
 clear hw4
 generalize w2.drew.heap.size = n1 at *
 refine hK _ _ (hSB.out _ B4.out) fun hH1 => ?_
 clear hK
 simp only [Act.put, pqA, pqB, pqC]
 refine wpAnyH_ready (rs := [7]) (by kernel_rfl) (by simp) ?_
 refine AllReadyH.cons (o := ⟨none, Op.store 39 (Operand.tmp 7) (Operand.tmp 23), 0, _, _, none⟩) rfl (fun K hK => ?_) AllReadyH.nil
 rw [if_pos (by rfl)]
 refine wp_store_row 39 (Operand.tmp 7) (Operand.tmp 23) rfl n1 vv rfl rfl 39 vz HB4.out (by rw [hvv.out]; exact Try.info39s _ _ _) (by rw [hvv.out, hvz.out, vtx_size, vtx_size]) (by rw [hvv.out]; exact vtx_one _ _ _ (slice_one _ _ _)) ?_
 have B5 := Keep.mk (below_setRow B4.out hL4.out vv)
 have HV5 := Keep.mk (HB4.out.setRow vv)
 refine hK _ _ (hSB.out _ B5.out) fun hH2 => ?_
 generalize w4.setRow n1 vv = w5 at *
 have HD5 := Keep.mk (HD2.out.below B5.out)
 have HX5 := Keep.mk (HX2.out.below B5.out HX2.out.lt)
 have LB5 := Keep.mk (belowT LB2.out B5.out)
 have HR5 := Keep.mk (HC.out.2.2.1.below B5.out)
 have HA5 : Keep (∀ k, (Value.slice pa pn pm).ownBlock = some k → k < w5.heap.size ∧ ¬ Av k) := ⟨fun k hk => ⟨Nat.lt_of_lt_of_le (HC.out.2.2.2 k hk).1 B5.out.size, (HC.out.2.2.2 k hk).2⟩⟩
 have NV : Keep (¬ DgS d g n1) := ⟨fun e => by have := HD2.out.lt n1 (HD2.out.av n1 e); have := hL4.out; omega⟩
 clear hK hH1 HB4 B4 B3 hSB
 simp only [Act.put, pqA, pqB, pqC]
 refine wpAnyH_done (by kernel_rfl) ?_ _
 refine hK5 _ _ ?_
 refine wp_seq_k fun K6 hK6 => rgn ?_
 refine VlS (.pointer (some ⟨d, 0, none⟩)) ?_
 refine WL.row (by kernel_rfl) 36 (.tmp 3) rfl w.heap.size rfl 36 (bytesA 32 x.f) _ HX5.out Try.underlying36 rfl (Try.size36B _) ?_
 simp only [Act.put, pqA, pqB, pqC]
 have hfg := forget_any d x Av g w5 HD5.out HQ.out HQl.out
 refine WL.callF (by kernel_rfl) 43 _ _ rfl Try.in43 #[ptr d, .agg (bytesA 32 x.f)] (by simp [Act.eval]) ?_
 refine (hfg.mono (R' := fun e w' => e = .returned (.bool true) ∧ ∃ i : Nat, ixF x g.queue 0 = (i : Int) ∧ ∃ g', Ste w5 w' Av d g g' ∧ g'.room = g.room ∧ g'.held = g.held ∧ g'.wait = g.wait.eraseP (isV x) ∧ g'.queue = g.queue.take i ++ g.queue.drop (i + 1) ∧ g'.order = g.order ∧ g'.heads = g.heads) (fun e w' h => h.elim (fun h => by have h1 := h.1; rw [hasB, HF.out] at h1; cases h1) fun ⟨_, h2, i, _, h4, h5⟩ => ⟨h2, i, h4, h5⟩)).mono ?_
 rintro e w6 ⟨rfl, i, hi, g6, hs, hg⟩
 refine ⟨_, rfl, ?_⟩
 clear hfg
 have HS6 := Keep.mk hs
 have HG6 := Keep.mk hg
 have Hi6 := Keep.mk hi
 have HV6 := Keep.mk (hs.grown.blk HV5.out NV.out)
 clear hs hg hi
 simp only [Act.put, pqA, pqB, pqC]
 refine WL.nil (hK6 _ _ ?_)
 refine wp_seq_k fun K7 hK7 => ?_
 refine wp_seq_k fun K8 hK8 => rgn ?_
 refine VlS (.int .i64 0) ?_
 refine VlS (.bool false) ?_
 refine WL.nil (hK8 _ _ ?_)
 refine wp_cond_false rfl ?_
 refine wp_skip ?_
 refine hK7 _ _ ?_
 refine wp_seq_k fun K9 hK9 => rgn ?_
 refine VlS (.pointer (some ⟨d, 0, none⟩)) ?_
 refine WL.row (by kernel_rfl) 39 (.tmp 7) rfl n1 rfl 39 vv _ HV6.out Try.underlying39 rfl (by rw [hvv.out]; exact Try.info39s _ _ _) ?_
 simp only [Act.put, pqA, pqB, pqC]
 have htk := HT.out w6 (.slice pa pn pm) _ g6 HS6.out.at' i Hi6.out HG6.out (HR5.out.grown HS6.out.grown fun b' o' n' c' e1 e2 => (HA5.out b' (by rw [e1]; rfl)).2 (HD5.out.av _ e2)) (fun k hk => ⟨Nat.lt_of_lt_of_le (HA5.out k hk).1 HS6.out.grown.size, fun h => h.elim (HA5.out k hk).2 fun h => (HS6.out.sub k h).elim (fun h => (HA5.out k hk).2 (HD5.out.av k h)) fun h => by have := (HA5.out k hk).1; omega⟩)
 rw [← HC.out.1, ← HC.out.2.1, ← hvv.out] at htk
 refine WL.callF (by kernel_rfl) 58 _ _ rfl Try.in58 #[ptr d, .agg vv] (by simp [Act.eval]) ?_
 refine (htk).mono ?_
 rintro e w7 ⟨rfl, g7, hs, hx⟩
 refine ⟨_, rfl, ?_⟩
 clear htk
 have HS7 := Keep.mk (HS6.out.trans hs)
 have HX7 := Keep.mk hx
 clear hs hx
 simp only [Act.put, pqA, pqB, pqC]
 refine WL.nil (hK9 _ _ ?_)
 refine wp_seq_k fun K10 hK10 => rgn ?_
 refine VlS (.int .i64 2) ?_
 refine VlS (.int .i64 0) ?_
 refine WL.nil (hK10 _ _ ?_)
 refine wp_ret ?_
 go_ret2
 exact ⟨rfl, g7, ⟨HS7.out.at', (Grown.below (S := DgS d g) LB5.out).trans HS7.out.grown, fun k hk => (HS7.out.sub k hk).imp id fun h => Nat.le_trans LB5.out.size h⟩, HX7.out⟩
end Go.Proofs.Ytogmdfhicbmplaa
namespace Go.Proofs.Ytogmdfhicbmplaa
open Go.RowKit
set_option linter.unusedSimpArgs false
set_option linter.unusedVariables false

set_option maxRecDepth 8000 in
theorem add_other (d : Nat) (v : VX) (p : Value) (Av : Nat → Prop) (g : DG) (w : World) (hw ee : Int) (hD : DagAt w Av d g) (hr : HRow w p v.ps) (hM : ∀ v ∈ g.held, 0 ≤ v.ck ∧ v.ck ≤ 4096) (hL : (v.ps.length : Int) ≤ 9223372036854775806) (hFt : fitV g.held g.wait v = (hw, ee)) (hN : ¬ hw = 2 ∧ ¬ hw = 3) :
  Calls Try.prog 17 #[ptr d, .agg (vtx v.id.f v.ck p)] w fun e w' => e = .returned (.tuple #[.int .i64 hw, .slice none 0 0, .int .i64 ee]) ∧ Below w.heap.size w w' := by
 obtain ⟨pa, pc, rfl⟩ := hr.form
 obtain ⟨vv, hvv⟩ : ∃ a : Array Value, Keep (a = vtx v.id.f v.ck (.slice pa v.ps.length pc)) := ⟨_, ⟨rfl⟩⟩
 rw [← hvv.out]
 have HD := Keep.mk hD
 have HR := Keep.mk hr
 have HM := Keep.mk hM
 have HL := Keep.mk hL
 have HFt := Keep.mk hFt
 have HN := Keep.mk hN
 clear hD hr hM hL hFt hN
 go_enter Try.func17, Try.ntmps17
 refine wp_seq_k fun K1 hK1 => rgn ?_
 refine WL.box (by kernel_rfl) 39 (.tmp 1) rfl (vv) rfl ?_
 obtain ⟨w1, hwn⟩ : ∃ wx, Keep (wx = w.alloc (.cells (vv) 39)) := ⟨_, ⟨rfl⟩⟩
 rw [← hwn.out]
 have HX1 : Keep (Blk w1 w.heap.size 39 (vv)) := ⟨by rw [hwn.out]; exact Blk.new _ _ _⟩
 have LB1 : Keep (Below w.heap.size w w1) := ⟨by rw [hwn.out]; exact below_new _ _⟩
 clear hwn
 have HD1 := Keep.mk (HD.out.below LB1.out)
 have HR1 := Keep.mk (HR.out.below LB1.out)
 simp only [Act.put, pqA, pqB, pqC]
 refine VlS (.int .i64 0) ?_
 refine VlS (.slice none 0 0) ?_
 refine VlS (.int .i64 0) ?_
 refine WL.nil (hK1 _ _ ?_)
 refine wp_seq_k fun K2 hK2 => rgn ?_
 refine VlS (.pointer (some ⟨d, 0, none⟩)) ?_
 refine WL.row (by kernel_rfl) 39 (.tmp 3) rfl w.heap.size rfl 39 vv _ HX1.out Try.underlying39 rfl (by rw [hvv.out]; exact Try.info39s _ _ _) ?_
 simp only [Act.put, pqA, pqB, pqC]
 have hft := fit_any d v _ Av g w1 HD1.out HR1.out HM.out HL.out
 rw [← hvv.out, HFt.out] at hft
 refine WL.callF (by kernel_rfl) 28 _ _ rfl Try.in28 #[ptr d, .agg vv] (by simp [Act.eval]) ?_
 refine (hft).mono ?_
 rintro e w2 ⟨rfl, hz⟩
 refine ⟨_, rfl, ?_⟩
 clear hft
 have LB2 := Keep.mk (belowT LB1.out hz)
 clear hz
 have hn2 := HN.out.1
 have hn3 := HN.out.2
 simp only [Act.put, pqA, pqB, pqC]
 refine VlS (.tuple #[.int .i64 hw, .int .i64 ee]) ?_
 refine VlS (.int .i64 hw) ?_
 refine VlS (.int .i64 ee) ?_
 refine VlS (.int .i64 hw) ?_
 refine VlS (.int .i64 ee) ?_
 refine WL.nil (hK2 _ _ ?_)
 refine wp_seq_k fun K3 hK3 => ?_
 refine wp_seq_k fun K4 hK4 => rgn ?_
 refine VlS (.int .i64 hw) ?_
 refine WL.nil (hK4 _ _ ?_)
 refine wp_block ?_
 refine wp_seq_k fun K5 hK5 => rgn ?_
 refine VlS (.bool false) ?_
 refine VlS (.bool false) ?_
 refine WL.nil (hK5 _ _ ?_)
 refine wp_cond_false rfl ?_
 refine wp_seq_k fun K6 hK6 => rgn ?_
 refine VlS (.bool false) ?_
 refine VlS (.bool false) ?_
 refine WL.nil (hK6 _ _ ?_)
 refine wp_cond_false rfl ?_
 refine wp_skip ?_
 refine hK3 _ _ ?_
 refine wp_seq_k fun K7 hK7 => rgn ?_
 refine VlS (.int .i64 hw) ?_
 refine VlS (.slice none 0 0) ?_
 refine VlS (.int .i64 ee) ?_
 refine VlS (.int .i64 hw) ?_
 refine VlS (.slice none 0 0) ?_
 refine VlS (.int .i64 ee) ?_
 refine WL.nil (hK7 _ _ ?_)
 refine wp_ret ?_
 go_ret3
 exact ⟨rfl, LB2.out⟩
/-- The oldest one whose parents are all held. -/
def nxQ (l m : List VX) : List Hs → Option VX
 | [] => none
 | x :: r => match m.find? (isV x) with
  | some v => if v.ps.all (hasB l) = true then some v else nxQ l m r
  | none => nxQ l m r
theorem built_zero : Try.prog.built 39 [] = some (vtx (fun _ => 0) 0 (.slice none 0 0)) := by kernel_rfl
set_option maxRecDepth 8000 in
set_option maxHeartbeats 1000000 in
theorem nextV_any (d : Nat) (Av : Nat → Prop) (g : DG) (w : World) (hD : DagAt w Av d g) (hQ : ∀ x ∈ g.queue, ∃ v, g.wait.find? (isV x) = some v) (hVl : ∀ v ∈ g.wait, v.ps.length ≤ 4398046511104) (hQl : g.queue.length ≤ 1000000000) : Calls Try.prog 35 #[ptr d] w fun e w' =>
  (nxQ g.held g.wait g.queue = none ∧ e = .returned (.tuple #[vZ, .bool false]) ∧ Below w.heap.size w w') ∨ ∃ v, nxQ g.held g.wait g.queue = some v ∧ ∃ p', e = .returned (.tuple #[.agg (vtx v.id.f v.ck p'), .bool true]) ∧ Fresh w w' p' v.ps := by
 have HD := Keep.mk hD
 have HQ := Keep.mk hQ
 have HVl := Keep.mk hVl
 have HQl := Keep.mk hQl
 clear hD hQ hVl hQl
 go_enter Try.func35, Try.ntmps35
 refine wp_seq_k fun K1 hK1 => rgn ?_
 refine WL.new (by kernel_rfl) 39 rfl _ Try.new39 ?_
 obtain ⟨vz, hvz⟩ : ∃ a : Array Value, Keep (a = vtx (fun _ => 0) 0 (.slice none 0 0)) := ⟨_, ⟨rfl⟩⟩
 rw [← hvz.out]
 have HZ1 := Keep.mk (Blk.new w 39 vz)
 have LB1 := Keep.mk (below_new w (.cells vz 39))
 generalize w.alloc (.cells vz 39) = w1 at *
 have HD1 := Keep.mk (HD.out.below LB1.out)
 obtain ⟨qa, qc, hqv⟩ := HD1.out.oq.sl
 have Hqv := Keep.mk hqv
 clear hqv
 have c5 : w1.cell? ⟨d, 5, none⟩ = some (.slice qa g.queue.length qc) := by have h := HD1.out.blk.c 5 (by rfl : (dgA g)[5]? = some g.qv); rw [Hqv.out] at h; exact h
 simp only [Act.put, pqA, pqB, pqC]
 refine VlS (.bool false) ?_
 refine WL.nil (hK1 _ _ ?_)
 refine wp_seq_k fun K2 hK2 => ?_
 refine wp_seq_k fun K3 hK3 => rgn ?_
 refine VlS (.pointer (some ⟨d, 0, none⟩)) ?_
 refine VlS (.pointer (some ⟨d, 0, none⟩)) ?_
 refine VlS (.pointer (some ⟨d, 5, none⟩)) ?_
 refine VlS (.slice qa g.queue.length qc) ?_
 refine VlS (.int .i64 (g.queue.length : Int)) ?_
 refine VlS (.int .i64 0) ?_
 refine WL.nil (hK3 _ _ ?_)
 refine wp_block ?_
 refine wp_loop (fun ac wr => ∃ (t : Nat) (u3 u5 u6 u13 u14 u15 u16 u17 u18 u19 u20 u21 u22 u23 u24 u25 u26 u27 u28 : Value), ac = { tmps := #[.pointer (some ⟨d, 0, none⟩), undef, .pointer (some ⟨w.heap.size, 0, none⟩), u3, undef, u5, u6, .pointer (some ⟨d, 0, none⟩), .pointer (some ⟨d, 0, none⟩), .pointer (some ⟨d, 5, none⟩), .slice qa g.queue.length qc, .int .i64 (g.queue.length : Int), .int .i64 (t : Int), u13, u14, u15, u16, u17, u18, u19, u20, u21, u22, u23, u24, u25, u26, u27, u28, undef], defers := [] } ∧ t ≤ g.queue.length ∧ nxQ g.held g.wait g.queue = nxQ g.held g.wait (g.queue.drop t) ∧ Below w1.heap.size w1 wr) (fun a _ => g.queue.length - (intOf (a.tmps.getD 12 undef)).toNat) ⟨0, .bool false, undef, undef, undef, undef, undef, undef, undef, undef, undef, undef, undef, undef, undef, undef, undef, undef, undef, undef, rfl, by omega, rfl, Below.refl _ _⟩ ?_
 rintro ac wr ⟨t, u3, u5, u6, u13, u14, u15, u16, u17, u18, u19, u20, u21, u22, u23, u24, u25, u26, u27, u28, rfl, ht, hP, hB⟩
 have JB := Keep.mk hB
 have JP := Keep.mk hP
 clear hB hP
 have HDr := Keep.mk (HD1.out.below JB.out)
 have HZr := Keep.mk (HZ1.out.below JB.out HZ1.out.lt)
 have LBr := Keep.mk (belowT LB1.out JB.out)
 by_cases htl : t < g.queue.length
 ·have htl' : (t : Int) < (g.queue.length : Int) := by omega
  have hwr1 : IntKind.i64.wrap ((t : Int) + 1) = (t : Int) + 1 := by rw [IntKind.wrap_i64]; have := HQl.out; omega
  obtain ⟨gp, op, hpa, _, _, hrg⟩ := (Hqv.out ▸ HDr.out.oq.row : HRow wr (.slice qa g.queue.length qc) g.queue).at (by omega)
  have hel := rangeAt_elem hrg t htl
  obtain ⟨hh, hhh⟩ : ∃ hh, hh = g.queue[t] := ⟨_, rfl⟩
  rw [← hhh] at hel
  have Hel := Keep.mk hel
  have Jhh := Keep.mk hhh
  obtain ⟨v, hv⟩ := HQ.out hh (by rw [hhh]; exact List.getElem_mem htl)
  have HF := Keep.mk hv
  have hvl := HVl.out v (List.mem_of_find?_eq_some hv)
  have HLv := Keep.mk hvl
  have hid : hh = v.id := by have h := List.find?_some hv; simpa [isV] using h
  have Hid := Keep.mk hid
  subst hpa
  clear hel hrg hhh hv hvl hid
  refine wp_seq_k fun K4 hK4 => rgn ?_
  refine VlS (.bool true) ?_
  refine WL.nil (hK4 _ _ ?_)
  refine wp_seq_k fun K5 hK5 => ?_
  refine wp_cond_true rfl ?_
  refine wp_skip ?_
  refine hK5 _ _ ?_
  refine wp_seq_k fun K6 hK6 => ?_
  refine wp_block ?_
  refine wp_seq_k fun K7 hK7 => rgn ?_
  refine VlS (.pointer (some ⟨gp, op + t * 32, none⟩)) ?_
  refine WL.mid (by kernel_rfl) 36 (.tmp 14) rfl gp (op + t * 32) rfl (encH hh) _ Hel.out Try.underlying36 rfl (Try.size36L hh) ?_
  rw [enc_load]
  simp only [Act.put, pqA, pqB, pqC]
  refine WL.new (by kernel_rfl) 36 rfl _ Try.new36 ?_
  simp only [Act.put, pqA, pqB, pqC]
  refine WL.storeR (by kernel_rfl) 36 (.tmp 5) (.tmp 15) rfl wr.heap.size (bytesA 32 hh.f) rfl rfl 36 (bytesA 32 fun _ => 0) (Blk.new wr 36 _) (Try.size36B _) (bytesA_sizes _ _ _) (bytesA_one _ _) ?_
  have HX2 := Keep.mk ((Blk.new wr 36 (bytesA 32 fun _ => 0)).setRow (bytesA 32 hh.f))
  have B2 : Keep (Below wr.heap.size wr ((wr.alloc (.cells (bytesA 32 fun _ => 0) 36)).setRow wr.heap.size (bytesA 32 hh.f))) := ⟨below_setRow (below_new wr _) (Nat.le_refl _) _⟩
  generalize (wr.alloc (.cells (bytesA 32 fun _ => 0) 36)).setRow wr.heap.size (bytesA 32 hh.f) = w2 at *
  have HD2 := Keep.mk (HDr.out.below B2.out)
  have HZ2 := Keep.mk (HZr.out.below B2.out HZr.out.lt)
  have LB2 := Keep.mk (belowT LBr.out B2.out)
  have JB2 := Keep.mk (belowT JB.out B2.out)
  generalize wr.heap.size = bb at *
  clear Hel
  simp only [Act.put]
  refine WL.nil (hK7 _ _ ?_)
  refine wp_seq_k fun K8 hK8 => ?_
  obtain ⟨es, ck, c0, k0, pa, pn, pm, hes, hl1, hl2, hcs⟩ := look1 HD2.out.wait hh
  obtain ⟨vv, hvv⟩ : ∃ a : Array Value, Keep (a = vtx c0 k0 (.slice pa pn pm)) := ⟨_, ⟨rfl⟩⟩
  rw [← hvv.out] at hl2
  have H1 := Keep.mk hl2
  have HC : Keep (c0 = v.id.f ∧ k0 = v.ck ∧ HRow w2 (.slice pa pn pm) v.ps) := ⟨hcs.elim (fun h => absurd (HF.out.symm.trans h.1) (by simp)) fun ⟨v', h, h2, h3, h4, _⟩ => by cases Option.some.inj (HF.out.symm.trans h); exact ⟨h2, h3, h4⟩⟩
  have hSB : Keep (∀ wx, Below w2.heap.size w2 wx → (fun wx => wx.cell? ⟨d, 4, none⟩ = some (.map (some g.wb)) ∧ wx.rangeAt bb 0 (bytesA 32 hh.f).toList ∧ wx.heap[g.wb]? = some (.map es ck)) wx) := ⟨fun wx hb => ⟨(HD2.out.blk.below hb HD2.out.blk.lt).c 4 rfl, blk_rng (HX2.out.below hb HX2.out.lt), by rw [hb.block _ (Array.getElem?_eq_some_iff.1 hes).1]; exact hes⟩⟩
  have B3 : Keep (Below w2.heap.size w2 w2.drew) := ⟨(Below.refl _ _).drew⟩
  clear hl1 hl2 hcs hes
  refine wp_region_held_drew (S := fun wx => wx.cell? ⟨d, 4, none⟩ = some (.map (some g.wb)) ∧ wx.rangeAt bb 0 (bytesA 32 hh.f).toList ∧ wx.heap[g.wb]? = some (.map es ck)) (by kernel_rfl) (hSB.out _ B3.out) (fun hHeld => ?_)
  refine tkS (i := 0) (oi := ⟨some 16, Op.move (Operand.tmp 0), 27, _, _, none⟩) (v := .pointer (some ⟨d, 0, none⟩)) rfl (Or.inl ⟨by rfl, fun w hS => by obtain ⟨hS1, hS2, hS3⟩ := hS; go_simp⟩) hHeld ?_
  refine tkS (i := 1) (oi := ⟨some 17, Op.nilCheck (Operand.tmp 16), 0, _, _, none⟩) (v := .pointer (some ⟨d, 0, none⟩)) rfl (Or.inl ⟨by rfl, fun w hS => by obtain ⟨hS1, hS2, hS3⟩ := hS; go_simp⟩) hHeld ?_
  refine tkS (i := 2) (oi := ⟨some 18, Op.fieldAddr 77 (Operand.tmp 17) 4, 0, _, _, none⟩) (v := .pointer (some ⟨d, 4, none⟩)) rfl (Or.inl ⟨by rfl, fun w hS => by obtain ⟨hS1, hS2, hS3⟩ := hS; go_simp⟩) hHeld ?_
  refine tkS (i := 3) (oi := ⟨some 19, Op.load 75 (Operand.tmp 18), 75, _, _, none⟩) (v := .map (some g.wb)) rfl (Or.inl ⟨by rfl, fun w hS => by obtain ⟨hS1, hS2, hS3⟩ := hS; go_simp⟩) hHeld ?_
  refine tkS (i := 4) (oi := ⟨some 20, Op.load 36 (Operand.tmp 5), 36, _, _, none⟩) (v := .agg (bytesA 32 hh.f)) rfl (yieldsIf_ld (by rfl) (Operand.tmp 5) 36 rfl bb 0 rfl (bytesA 32 hh.f) _ Try.underlying36 rfl (size36A _) fun w hS => hS.2.1) hHeld ?_
  refine tkS (i := 5) (oi := ⟨some 21, Op.lookup 75 (Operand.tmp 19) (Operand.tmp 20) false, 39, _, _, none⟩) (v := .agg vv) rfl (yieldsIf_look (by rfl) (Operand.tmp 19) (Operand.tmp 20) false rfl g.wb hh.f rfl rfl _ fun wx hS => H1.out wx hS.2.2) hHeld ?_
  refine wpAnyH_ready (rs := [6]) (by kernel_rfl) (by simp) ?_
  refine AllReadyH.cons (o := ⟨some 6, Op.alloc 39, 0, _, _, none⟩) rfl (fun K hK => ?_) AllReadyH.nil
  rw [if_pos (by rfl)]
  refine wp_newA 39 rfl vz (by rw [hvz.out]; exact Try.new39) ?_
  have B4 := Keep.mk (B3.out.alloc (Nat.le_refl _) (.cells vz 39))
  obtain ⟨w4, hw4⟩ : ∃ wx, Keep (wx = w2.drew.alloc (.cells vz 39)) := ⟨_, ⟨rfl⟩⟩
  rw [← hw4.out]
  have HB4 : Keep (Blk w4 w2.drew.heap.size 39 vz) := ⟨by rw [hw4.out]; exact Blk.new _ _ _⟩
  have B4 : Keep (Below w2.heap.size w2 w4) := ⟨by rw [hw4.out]; exact B4.out⟩
  have hL4 : Keep (w2.heap.size ≤ w2.drew.heap.size) := ⟨Nat.le_refl _⟩
  clear hw4
  generalize w2.drew.heap.size = n1 at *
  refine hK _ _ (hSB.out _ B4.out) fun hH1 => ?_
  clear hK
  simp only [Act.put, pqA, pqB, pqC]
  refine wpAnyH_ready (rs := [7]) (by kernel_rfl) (by simp) ?_
  refine AllReadyH.cons (o := ⟨none, Op.store 39 (Operand.tmp 6) (Operand.tmp 21), 0, _, _, none⟩) rfl (fun K hK => ?_) AllReadyH.nil
  rw [if_pos (by rfl)]
  refine wp_store_row 39 (Operand.tmp 6) (Operand.tmp 21) rfl n1 vv rfl rfl 39 vz HB4.out (by rw [hvv.out]; exact Try.info39s _ _ _) (by rw [hvv.out, hvz.out, vtx_size, vtx_size]) (by rw [hvv.out]; exact vtx_one _ _ _ (slice_one _ _ _)) ?_
  have B5 := Keep.mk (below_setRow B4.out hL4.out vv)
  have HX5 := Keep.mk (HB4.out.setRow vv)
  refine hK _ _ (hSB.out _ B5.out) fun hH2 => ?_
  generalize w4.setRow n1 vv = w5 at *
  have HD5 := Keep.mk (HD2.out.below B5.out)
  have HZ5 := Keep.mk (HZ2.out.below B5.out HZ2.out.lt)
  have LB5 := Keep.mk (belowT LB2.out B5.out)
  have JB5 := Keep.mk (belowT JB2.out B5.out)
  have HR5 := Keep.mk (HC.out.2.2.below B5.out)
  obtain ⟨_, pm', hpf⟩ := HR5.out.form
  injection hpf with _ hpn _
  subst hpn
  have c33 : w5.cell? ⟨n1, 33, none⟩ = some (.slice pa v.ps.length pm) := HX5.out.c 33 (by rw [hvv.out]; exact vtx_ps _ _ _)
  clear hK hH1 HB4 B4 B3 hSB
  simp only [Act.put, pqA, pqB, pqC]
  refine wpAnyH_done (by kernel_rfl) ?_ _
  refine hK8 _ _ ?_
  refine wp_seq_k fun K9 hK9 => rgn ?_
  refine VlS (.pointer (some ⟨d, 0, none⟩)) ?_
  refine VlS (.pointer (some ⟨n1, 33, none⟩)) ?_
  refine VlS (.slice pa v.ps.length pm) ?_
  clear c33
  have hal := hasAll_any d _ v.ps Av g w5 HD5.out HR5.out (by have := HLv.out; omega)
  refine WL.callF (by kernel_rfl) 68 _ _ rfl Try.in68 #[ptr d, .slice pa v.ps.length pm] (by simp [Act.eval]) ?_
  refine (hal).mono ?_
  rintro e w6 ⟨rfl, hz⟩
  refine ⟨_, rfl, ?_⟩
  clear hal
  have HX6 := Keep.mk (HX5.out.below hz HX5.out.lt)
  have HZ6 := Keep.mk (HZ5.out.below hz HZ5.out.lt)
  have LB6 := Keep.mk (belowT LB5.out hz)
  have JB6 := Keep.mk (belowT JB5.out hz)
  have HR6 := Keep.mk (HR5.out.below hz)
  obtain ⟨ba, Hba⟩ : ∃ b, Keep (v.ps.all (hasB g.held) = b) := ⟨_, ⟨rfl⟩⟩
  rw [Hba.out]
  have HPc : Keep (nxQ g.held g.wait g.queue = if ba = true then some v else nxQ g.held g.wait (g.queue.drop (t + 1))) := ⟨by rw [JP.out, List.drop_eq_getElem_cons htl, nxQ, ← Jhh.out, HF.out, ← Hba.out]⟩
  clear hz
  simp only [Act.put, pqA, pqB, pqC]
  refine WL.nil (hK9 _ _ ?_)
  rcases Bool.eq_false_or_eq_true ba with hba | hba
  ·subst hba
   refine wp_cond_true rfl ?_
   refine wp_seq_k fun K10 hK10 => rgn ?_
   refine WL.row (by kernel_rfl) 39 (.tmp 6) rfl n1 rfl 39 vv _ HX6.out Try.underlying39 rfl (by rw [hvv.out]; exact Try.info39s _ _ _) ?_
   simp only [Act.put, pqA, pqB, pqC]
   have how := own_any v _ w6 HR6.out (by have := HLv.out; omega)
   rw [← HC.out.1, ← HC.out.2.1, ← hvv.out] at how
   refine WL.callF (by kernel_rfl) 59 _ _ rfl Try.in59 #[.agg vv] (by simp [Act.eval]) ?_
   refine (how).mono ?_
   rintro e w7 ⟨p7, rfl, hf⟩
   refine ⟨_, rfl, ?_⟩
   clear how
   have HF7 := Keep.mk hf
   have HZ7 := Keep.mk (HZ6.out.below hf.bel HZ6.out.lt)
   have LB7 := Keep.mk (belowT LB6.out hf.bel)
   obtain ⟨pa7, pc7, hp7⟩ := hf.own.sl
   have HP7 := Keep.mk hp7
   obtain ⟨vq, hvq⟩ : ∃ a : Array Value, Keep (a = vtx c0 k0 p7) := ⟨_, ⟨rfl⟩⟩
   have HI7 : Keep ((Try.prog.info? 39).map (·.size) = some vq.size) := ⟨by rw [hvq.out]; exact Try.info39s _ _ _⟩
   have HO7 : Keep (vq.all (·.oneCell') = true) := ⟨by rw [hvq.out, hp7]; exact vtx_one _ _ _ (slice_one _ _ _)⟩
   have HS7 : Keep (vz.size = vq.size) := ⟨by rw [hvq.out, hvz.out, vtx_size, vtx_size]⟩
   rw [← hvq.out]
   clear hf hp7 HX6 HR6
   simp only [Act.put, pqA, pqB, pqC]
   refine WL.storeR (by kernel_rfl) 39 (.tmp 2) (.tmp 27) rfl w.heap.size vq rfl rfl 39 vz HZ7.out HI7.out HS7.out HO7.out ?_
   have HZ8 := Keep.mk (HZ7.out.setRow vq)
   have LB8 := Keep.mk (below_setRow LB7.out (b := w.heap.size) (Nat.le_refl _) vq)
   have G8 : Keep (Grown w7 (w7.setRow w.heap.size vq) fun k => k = w.heap.size) := ⟨Grown.setRow w7 _ _ fun _ => rfl⟩
   generalize w7.setRow w.heap.size vq = w8 at *
   simp only [Act.put]
   refine VlS (.bool true) ?_
   refine WL.nil (hK10 _ _ ?_)
   refine wp_ret ?_
   try simp only [Exit.inBlock, Exit.then]
   refine bodyPost_ret (v := .tuple #[.agg vq, .bool true]) (results_cell_row2 Try.results35 _ _ w.heap.size 39 _ (0, 0) _ _ rfl rfl HZ8.out Try.underlying39 rfl HI7.out) rfl ?_
   refine .inr ⟨v, HPc.out, p7, by rw [hvq.out, HC.out.1, HC.out.2.1], ⟨HF7.out.own.grown G8.out fun k hk e => ?_, fun k hk => Nat.le_trans LB6.out.size (HF7.out.new k hk), LB8.out⟩⟩
   have := HF7.out.new k hk; have := HZ6.out.lt; omega
  ·subst hba
   refine wp_cond_false rfl ?_
   refine wp_skip ?_
   refine hK6 _ _ ?_
   refine rgn ?_
   refine VlS (.int .i64 ((t : Int) + 1)) ?_
   refine VlS (.int .i64 ((t : Int) + 1)) ?_
   refine WL.nil ?_
   refine ⟨⟨t + 1, u3, .pointer (some ⟨bb, 0, none⟩), .pointer (some ⟨n1, 0, none⟩), .bool true, .pointer (some ⟨gp, op + t * 32, none⟩), .agg (bytesA 32 hh.f), .pointer (some ⟨d, 0, none⟩), .pointer (some ⟨d, 0, none⟩), .pointer (some ⟨d, 4, none⟩), .map (some g.wb), .agg (bytesA 32 hh.f), .agg vv, .pointer (some ⟨d, 0, none⟩), .pointer (some ⟨n1, 33, none⟩), .slice pa v.ps.length pm, .bool false, u26, u27, .int .i64 ((t : Int) + 1), rfl, by omega, ?_, JB6.out⟩, ?_⟩
   ·rw [HPc.out]; rfl
   ·simp only [intOf]; show g.queue.length - ((t : Int) + 1).toNat < g.queue.length - ((t : Int)).toNat; omega
 ·have hte : Keep (t = g.queue.length) := ⟨by omega⟩
  have htl' : ¬ (t : Int) < (g.queue.length : Int) := by omega
  refine wp_seq_k fun K11 hK11 => rgn ?_
  refine VlS (.bool false) ?_
  refine WL.nil (hK11 _ _ ?_)
  refine wp_seq_k fun K12 hK12 => ?_
  refine wp_cond_false rfl ?_
  refine wp_exit ?_
  refine hK2 _ _ ?_
  refine wp_seq_k fun K13 hK13 => rgn ?_
  refine WL.bld (by kernel_rfl) 39 _ rfl [] (by simp) vz (by rw [hvz.out]; exact built_zero) ?_
  simp only [Act.put, pqA, pqB, pqC]
  refine WL.storeR (by kernel_rfl) 39 (.tmp 2) (.tmp 29) rfl w.heap.size vz rfl rfl 39 vz HZr.out (by rw [hvz.out]; exact Try.info39s _ _ _) rfl (by rw [hvz.out]; exact vtx_one _ _ _ (slice_one _ _ _)) ?_
  have HZ8 := Keep.mk (HZr.out.setRow vz)
  have LB8 := Keep.mk (below_setRow LBr.out (b := w.heap.size) (Nat.le_refl _) vz)
  generalize wr.setRow w.heap.size vz = w8 at *
  simp only [Act.put]
  refine VlS (.bool false) ?_
  refine WL.nil (hK13 _ _ ?_)
  refine wp_ret ?_
  try simp only [Exit.inBlock, Exit.then]
  refine bodyPost_ret (v := .tuple #[.agg vz, .bool false]) (results_cell_row2 Try.results35 _ _ w.heap.size 39 _ (0, 0) _ _ rfl rfl HZ8.out Try.underlying39 rfl (by rw [hvz.out]; exact Try.info39s _ _ _)) rfl ?_
  refine .inl ⟨by rw [JP.out, hte.out, List.drop_length]; rfl, by rw [hvz.out]; rfl, LB8.out⟩
end Go.Proofs.Ytogmdfhicbmplaa
namespace Go.Proofs.Ytogmdfhicbmplaa
open Go.RowKit
set_option linter.unusedSimpArgs false
set_option linter.unusedVariables false

/-! ### Lists that rise. -/
theorem rises_pw {L : List Hs} (h : risesB L = true) : L.Pairwise Lt := by
 rw [risesB_iff] at h
 have key : ∀ n i : Nat, i + n + 1 < L.length → Lt (L.getD i default) (L.getD (i + n + 1) default) := by
  intro n
  induction n with
  | zero => intro i hi; exact h i hi
  | succ n ih =>
   intro i hi
   have h1 := ih i (by omega)
   have h2 := h (i + n + 1) (by omega)
   exact h1.trans h2
 rw [List.pairwise_iff_getElem]
 intro i j hi hj hij
 have := key (j - i - 1) i (by omega)
 rw [show i + (j - i - 1) + 1 = j by omega] at this
 simpa [List.getD_eq_getElem?_getD, hi, hj] using this
theorem pw_inc {L : List Hs} (h : L.Pairwise Lt) : Inc L := fun i j hij hj => by
 have := (List.pairwise_iff_getElem.1 h) i j (by omega) hj hij
 simpa [List.getD_eq_getElem?_getD, hj, show i < L.length by omega] using this
theorem pw_nodup {L : List Hs} (h : L.Pairwise Lt) : L.Nodup := h.imp fun h => h.ne
theorem getD_at {l : List Hs} {k : Nat} {z : Hs} (h : l[k]? = some z) : l.getD k default = z := by rw [List.getD_eq_getElem?_getD, h]; rfl
theorem at_getD {l : List Hs} {k : Nat} (h : k < l.length) : l[k]? = some (l.getD k default) := by rw [List.getD_eq_getElem?_getD, List.getElem?_eq_getElem h]; rfl
/-! ### Where a vertex is placed. -/
theorem plc_gen (v : VX) (l : List Hs) : ∀ k b, k ≤ b → b ≤ l.length → (∀ (j : Nat) z, k ≤ j → l[j]? = some z → z ∉ v.ps) → (∀ z, l[b]? = some z → Lt v.id z) → (∀ (j : Nat) z, k ≤ j → j < b → l[j]? = some z → ¬ Lt v.id z) →
  plc v l k b ≤ l.length ∧ (∀ (j : Nat) z, l[j]? = some z → z ∈ v.ps → j < plc v l k b) ∧ (∀ z, l[plc v l k b]? = some z → Lt v.id z) ∧ (∀ (i : Nat) z, i < plc v l k b → l[i]? = some z → Lt v.id z → ∃ (j : Nat) (y : Hs), i ≤ j ∧ l[j]? = some y ∧ y ∈ v.ps)
 | 0, b, h1, h2, h3, h4, h5 => by
  unfold plc
  exact ⟨h2, fun j z hj hz => absurd hz (h3 j z (Nat.zero_le _) hj), h4, fun i z hi hz hlt => absurd hlt (h5 i z (Nat.zero_le _) hi hz)⟩
 | k + 1, b, h1, h2, h3, h4, h5 => by
  have hk := at_getD (l := l) (k := k) (by omega)
  unfold plc
  by_cases hp : l.getD k default ∈ v.ps
  ·rw [if_pos hp]
   refine ⟨h2, fun j z hj hz => ?_, h4, fun i z hi hz hlt => ?_⟩
   ·exact Nat.lt_of_not_le fun hb => h3 j z (by omega) hj hz
   ·by_cases hik : i ≤ k
    ·exact ⟨k, _, hik, hk, hp⟩
    ·exact absurd hlt (h5 i z (by omega) hi hz)
  ·rw [if_neg hp]
   refine plc_gen v l k _ ?_ ?_ ?_ ?_ ?_
   ·split <;> omega
   ·split <;> omega
   ·intro j z hj hz
    rcases Nat.lt_or_eq_of_le hj with h | rfl
    ·exact h3 j z h hz
    ·rw [hk] at hz; cases hz; exact hp
   ·intro z hz
    by_cases hc : cf v.id (l.getD k default) < 0
    ·rw [if_pos hc, hk] at hz; cases hz; exact hc
    ·rw [if_neg hc] at hz; exact h4 z hz
   ·intro j z hj hb hz
    rcases Nat.lt_or_eq_of_le hj with h | rfl
    ·refine h5 j z h ?_ hz
     split at hb <;> omega
    ·rw [hk] at hz; cases hz
     intro hc
     have hc' : cf v.id (l.getD k default) < 0 := hc
     rw [if_pos hc'] at hb
     omega
theorem plc_spec (v : VX) (l : List Hs) :
  plc v l l.length l.length ≤ l.length ∧ (∀ (j : Nat) z, l[j]? = some z → z ∈ v.ps → j < plc v l l.length l.length) ∧ (∀ z, l[plc v l l.length l.length]? = some z → Lt v.id z) ∧ (∀ (i : Nat) z, i < plc v l l.length l.length → l[i]? = some z → Lt v.id z → ∃ (j : Nat) (y : Hs), i ≤ j ∧ l[j]? = some y ∧ y ∈ v.ps) :=
 plc_gen v l l.length l.length (Nat.le_refl _) (Nat.le_refl _) (fun j z hj hz => by rw [List.getElem?_eq_none hj] at hz; cases hz) (fun z hz => by rw [List.getElem?_eq_none (Nat.le_refl _)] at hz; cases hz) (fun j z h1 h2 => by omega)
/-! ### Vertices by their hashes. -/
theorem isV_iff {x : Hs} {v : VX} : isV x v = true ↔ v.id = x := by unfold isV; rw [decide_eq_true_iff]; exact eq_comm
theorem hasB_iff {l : List VX} {x : Hs} : hasB l x = true ↔ ∃ v ∈ l, v.id = x := by
 unfold hasB
 rw [List.find?_isSome]
 exact ⟨fun ⟨v, h1, h2⟩ => ⟨v, h1, isV_iff.1 h2⟩, fun ⟨v, h1, h2⟩ => ⟨v, h1, isV_iff.2 h2⟩⟩
theorem hasB_no {l : List VX} {x : Hs} : hasB l x = false ↔ ∀ v ∈ l, v.id ≠ x := by
 rw [Bool.eq_false_iff]
 constructor
 ·intro h v hv e; exact h (hasB_iff.2 ⟨v, hv, e⟩)
 ·intro h e; obtain ⟨v, hv, e⟩ := hasB_iff.1 e; exact h v hv e
theorem hasB_app {l m : List VX} {x : Hs} : hasB (l ++ m) x = (hasB l x || hasB m x) := by
 rw [Bool.eq_iff_iff, Bool.or_eq_true, hasB_iff, hasB_iff, hasB_iff]
 constructor
 ·rintro ⟨v, hv, e⟩
  rcases List.mem_append.1 hv with h | h
  ·exact .inl ⟨v, h, e⟩
  ·exact .inr ⟨v, h, e⟩
 ·rintro (⟨v, h, e⟩ | ⟨v, h, e⟩)
  ·exact ⟨v, List.mem_append.2 (.inl h), e⟩
  ·exact ⟨v, List.mem_append.2 (.inr h), e⟩
theorem hasB_one {v : VX} {x : Hs} : hasB [v] x = true ↔ x = v.id := by
 rw [hasB_iff]
 constructor
 ·rintro ⟨u, hu, e⟩; rw [List.mem_singleton] at hu; subst hu; exact e.symm
 ·rintro rfl; exact ⟨v, by simp, rfl⟩
theorem find_none {l : List VX} {x : Hs} (h : hasB l x = false) : l.find? (isV x) = none := by
 unfold hasB at h
 cases hf : l.find? (isV x) with
 | none => rfl
 | some v => rw [hf] at h; cases h
theorem find_has {l : List VX} {x : Hs} (h : hasB l x = true) : ∃ v, l.find? (isV x) = some v ∧ v ∈ l ∧ v.id = x := by
 unfold hasB at h
 obtain ⟨v, hv⟩ := Option.isSome_iff_exists.1 h
 exact ⟨v, hv, List.mem_of_find?_eq_some hv, isV_iff.1 (List.find?_some hv)⟩
theorem find_mem {l : List VX} (hn : (l.map (·.id)).Nodup) {v : VX} (hv : v ∈ l) : l.find? (isV v.id) = some v := by
 induction l with
 | nil => cases hv
 | cons u r ih =>
  rw [List.map_cons, List.nodup_cons] at hn
  rw [List.find?_cons]
  rcases List.mem_cons.1 hv with rfl | h
  ·rw [isV_iff.2 rfl]
  ·have hne : isV v.id u = false := by
    rw [Bool.eq_false_iff, Ne, isV_iff]
    intro e
    exact hn.1 (List.mem_map.2 ⟨v, h, e.symm⟩)
   rw [hne]
   exact ih hn.2 h
theorem mem_one {l : List VX} (hn : (l.map (·.id)).Nodup) {u v : VX} (hu : u ∈ l) (hv : v ∈ l) (e : u.id = v.id) : u = v := by
 have h1 := find_mem hn hu
 have h2 := find_mem hn hv
 rw [e, h2] at h1
 exact (Option.some.inj h1).symm
theorem find_app {l m : List VX} {x : Hs} (h : hasB l x = true) : (l ++ m).find? (isV x) = l.find? (isV x) := by
 obtain ⟨v, hv, _⟩ := find_has h
 rw [List.find?_append, hv]; rfl
theorem ckOf_app {l m : List VX} {x : Hs} (h : hasB l x = true) : ckOf (l ++ m) x = ckOf l x := by unfold ckOf; rw [find_app h]
theorem mxC_app {l m : List VX} {ps : List Hs} (h : ∀ p ∈ ps, hasB l p = true) : mxC (l ++ m) ps = mxC l ps := by
 unfold mxC
 suffices H : ∀ (ps : List Hs) (k : Int), (∀ p ∈ ps, hasB l p = true) → ps.foldl (fun m' h => if ckOf (l ++ m) h > m' then ckOf (l ++ m) h else m') k = ps.foldl (fun m h => if ckOf l h > m then ckOf l h else m) k from H ps 0 h
 intro ps
 induction ps with
 | nil => intros; rfl
 | cons x r ih =>
  intro k hk
  rw [List.foldl_cons, List.foldl_cons, ckOf_app (hk x (by simp))]
  exact ih _ fun p hp => hk p (by simp [hp])
/-- The parents of a held one. -/
def parH (l : List VX) (x : Hs) : List Hs := match l.find? (isV x) with
 | some v => v.ps
 | none => []
theorem parH_app {l m : List VX} {x : Hs} (h : hasB l x = true) : parH (l ++ m) x = parH l x := by unfold parH; rw [find_app h]
theorem parH_mem {l : List VX} (hn : (l.map (·.id)).Nodup) {v : VX} (hv : v ∈ l) : parH l v.id = v.ps := by unfold parH; rw [find_mem hn hv]
theorem chk_ok {v : VX} (h : chkV v = 0) : v.ps.length ≤ 64 ∧ v.ps.Pairwise Lt ∧ 1 ≤ v.ck ∧ v.ck ≤ 4096 ∧ (v.ck = 1 ↔ v.ps.length = 0) := by
 unfold chkV at h
 by_cases h1 : 64 < v.ps.length ∨ risesB v.ps = false
 ·rw [if_pos h1] at h; cases h
 ·rw [if_neg h1] at h
  by_cases h2 : v.ck < 1 ∨ 4096 < v.ck ∨ ¬ (v.ck = 1 ↔ v.ps.length = 0)
  ·rw [if_pos h2] at h; cases h
  ·rw [not_or] at h1
   rw [not_or, not_or, Classical.not_not] at h2
   exact ⟨by omega, rises_pw (by simpa using h1.2), by omega, by omega, h2.2.2⟩
theorem next_ok {l : List VX} {v : VX} (h : nextE l v = 0) : v.ck = mxC l v.ps + 1 ∧ l.length < 4096 := by
 unfold nextE at h
 by_cases h1 : v.ck ≠ mxC l v.ps + 1
 ·rw [if_pos h1] at h; cases h
 ·rw [if_neg h1] at h
  by_cases h2 : 4096 ≤ l.length
  ·rw [if_pos h2] at h; cases h
  ·exact ⟨Classical.not_not.1 h1, by omega⟩
/-! ### What the heads are then. -/
def hdsOf (h : List Hs) (v : VX) : List Hs := insL (h.filter (outB v.ps)) ((h.filter (outB v.ps)).countP fun x => decide (cf x v.id < 0)) v.id
theorem cnt_at {l : List Hs} {x : Hs} {i : Nat} (hi : i ≤ l.length) (h1 : ∀ k, k < i → Lt (l.getD k default) x) (h2 : ∀ k, i ≤ k → k < l.length → ¬ Lt (l.getD k default) x) : l.countP (fun h => decide (cf h x < 0)) = i := by
 conv => lhs; rw [← List.take_append_drop i l]
 rw [List.countP_append]
 have e1 : (l.take i).countP (fun h => decide (cf h x < 0)) = i := by
  have : (l.take i).countP (fun h => decide (cf h x < 0)) = (l.take i).length := List.countP_eq_length.2 fun a ha => by
   obtain ⟨k, hk⟩ := mem_at ha
   have hk' := (List.getElem?_eq_some_iff.1 hk).1
   rw [List.length_take] at hk'
   rw [List.getElem?_take, if_pos (by omega)] at hk
   have := h1 k (by omega)
   rw [getD_at hk] at this
   exact decide_eq_true this
  rw [this, List.length_take]; omega
 have e2 : (l.drop i).countP (fun h => decide (cf h x < 0)) = 0 := List.countP_eq_zero.2 fun a ha => by
  obtain ⟨k, hk⟩ := mem_at ha
  rw [List.getElem?_drop] at hk
  have hk' := (List.getElem?_eq_some_iff.1 hk).1
  have := h2 (i + k) (by omega) hk'
  rw [getD_at hk] at this
  simpa [Lt] using this
 omega
theorem cnt_take {l : List Hs} (hl : l.Pairwise Lt) (x : Hs) : (∀ y ∈ l.take (l.countP fun h => decide (cf h x < 0)), Lt y x) ∧ (∀ y ∈ l.drop (l.countP fun h => decide (cf h x < 0)), ¬ Lt y x) := by
 induction l with
 | nil => simp
 | cons a r ih =>
  rw [List.pairwise_cons] at hl
  rw [List.countP_cons]
  by_cases ha : cf a x < 0
  ·rw [if_pos (by simpa using ha), List.take_succ_cons, List.drop_succ_cons]
   refine ⟨fun y hy => ?_, (ih hl.2).2⟩
   rcases List.mem_cons.1 hy with rfl | h
   ·exact ha
   ·exact (ih hl.2).1 y h
  ·have h0 : r.countP (fun h => decide (cf h x < 0)) = 0 := List.countP_eq_zero.2 fun y hy => by
    have := hl.1 y hy
    intro hc
    have hc2 : Lt y x := by simpa [Lt] using hc
    exact ha (this.trans hc2)
   rw [if_neg (by simpa using ha), h0]
   refine ⟨by simp, fun y hy => ?_⟩
   simp only [Nat.add_zero, List.drop_zero] at hy
   rcases List.mem_cons.1 hy with rfl | h
   ·exact ha
   ·intro hc; exact ha ((hl.1 y h).trans hc)
theorem hds_pw {h : List Hs} {v : VX} (hp : h.Pairwise Lt) (hv : v.id ∉ h) : (hdsOf h v).Pairwise Lt := by
 unfold hdsOf
 have h1 : (h.filter (outB v.ps)).Pairwise Lt := hp.filter _
 have h2 : v.id ∉ h.filter (outB v.ps) := fun hc => hv (List.mem_filter.1 hc).1
 generalize h.filter (outB v.ps) = l at *
 obtain ⟨t1, t2⟩ := cnt_take h1 v.id
 generalize l.countP (fun x => decide (cf x v.id < 0)) = i at *
 have gt : ∀ y ∈ l.drop i, Lt v.id y := fun y hy => by
  rcases Lt.tri v.id y with h | h | h
  ·exact h
  ·exact absurd (h ▸ List.mem_of_mem_drop hy) h2
  ·exact absurd h (t2 y hy)
 have h1' : (l.take i ++ l.drop i).Pairwise Lt := by rw [List.take_append_drop]; exact h1
 rw [List.pairwise_append] at h1'
 unfold insL
 rw [List.pairwise_append, List.pairwise_cons]
 refine ⟨h1'.1, ⟨gt, h1'.2.1⟩, fun a ha b hb => ?_⟩
 rcases List.mem_cons.1 hb with rfl | hb
 ·exact t1 a ha
 ·exact h1'.2.2 a ha b hb
theorem hds_mem {h : List Hs} {v : VX} {x : Hs} : x ∈ hdsOf h v ↔ x = v.id ∨ (x ∈ h ∧ x ∉ v.ps) := by
 unfold hdsOf
 rw [insL_mem, List.mem_filter]
 simp [outB]
/-! ### What holds of every Dag. -/
structure DI (g : DG) : Prop where
 room : 0 ≤ g.room ∧ g.room ≤ 64
 hl : g.held.length ≤ 4096
 hn : (g.held.map (·.id)).Nodup
 wn : (g.wait.map (·.id)).Nodup
 dj : ∀ v ∈ g.wait, hasB g.held v.id = false
 hc : ∀ v ∈ g.held, chkV v = 0
 wc : ∀ v ∈ g.wait, chkV v = 0
 q : g.queue = g.wait.map (·.id)
 ql : (g.wait.length : Int) ≤ g.room
 ck : ∀ v ∈ g.held, v.ck = mxC g.held v.ps + 1
 cl : ∀ v ∈ g.held, ∀ p ∈ v.ps, hasB g.held p = true
 om : ∀ x, x ∈ g.order ↔ hasB g.held x = true
 oo : OneO (parH g.held) g.order
 hd : g.heads.Pairwise Lt
 hm : ∀ x, x ∈ g.heads ↔ hasB g.held x = true ∧ ∀ v ∈ g.held, x ∉ v.ps
/-- A vertex was taken. -/
def tookG (g : DG) (v : VX) (g' : DG) : Prop := g'.room = g.room ∧ g'.held = g.held ++ [v] ∧ g'.wait = g.wait ∧ g'.queue = g.queue ∧ g'.order = insL g.order (plc v g.order g.order.length g.order.length) v.id ∧ g'.heads = hdsOf g.heads v
theorem DI.took {g g' : DG} {v : VX} (h : DI g) (hc : chkV v = 0) (h1 : hasB g.held v.id = false) (h2 : hasB g.wait v.id = false) (ha : ∀ p ∈ v.ps, hasB g.held p = true) (hn : nextE g.held v = 0) (t : tookG g v g') : DI g' := by
 obtain ⟨e1, e2, e3, e4, e5, e6⟩ := t
 have hnx := next_ok hn
 have hvo : v.id ∉ g.order := fun hc => by rw [h.om, h1] at hc; cases hc
 have hps : v.id ∉ v.ps := fun hc => by have := ha _ hc; rw [h1] at this; cases this
 have hup : ∀ u ∈ g.held, v.id ∉ u.ps := fun u hu hc => by have := h.cl u hu _ hc; rw [h1] at this; cases this
 have hnd : ((g.held ++ [v]).map (·.id)).Nodup := by
  rw [List.map_append, List.nodup_append]
  refine ⟨h.hn, by simp, fun a ha b hb => ?_⟩
  simp only [List.map_cons, List.map_nil, List.mem_singleton] at hb
  subst hb
  obtain ⟨u, hu, rfl⟩ := List.mem_map.1 ha
  exact hasB_no.1 h1 u hu
 have hpv : parH (g.held ++ [v]) v.id = v.ps := parH_mem hnd (by simp)
 have hhas : ∀ x, hasB (g.held ++ [v]) x = true ↔ x = v.id ∨ hasB g.held x = true := fun x => by rw [hasB_app, Bool.or_eq_true, hasB_one]; exact Or.comm
 refine ⟨by rw [e1]; exact h.room, by rw [e2, List.length_append]; have := hnx.2; simp; omega, by rw [e2]; exact hnd, by rw [e3]; exact h.wn, ?_, ?_, by rw [e3]; exact h.wc, by rw [e4, e3]; exact h.q, by rw [e3, e1]; exact h.ql, ?_, ?_, ?_, ?_, ?_, ?_⟩
 ·rw [e3, e2]
  intro u hu
  rw [Bool.eq_false_iff, Ne, hhas]
  rintro (e | e)
  ·exact hasB_no.1 h2 u hu e
  ·rw [h.dj u hu] at e; cases e
 ·rw [e2]
  intro u hu
  rcases List.mem_append.1 hu with hu | hu
  ·exact h.hc u hu
  ·rw [List.mem_singleton] at hu; subst hu; exact hc
 ·rw [e2]
  intro u hu
  rcases List.mem_append.1 hu with hu | hu
  ·rw [mxC_app (h.cl u hu)]; exact h.ck u hu
  ·rw [List.mem_singleton] at hu; subst hu; rw [mxC_app ha]; exact hnx.1
 ·rw [e2]
  intro u hu p hp
  rw [hhas]
  rcases List.mem_append.1 hu with hu | hu
  ·exact .inr (h.cl u hu p hp)
  ·rw [List.mem_singleton] at hu; subst hu; exact .inr (ha p hp)
 ·intro x
  rw [e5, e2, insL_mem, hhas, h.om]
 ·rw [e5, e2]
  obtain ⟨p1, p2, p3, p4⟩ := plc_spec v g.order
  refine h.oo.ins (fun x hx => parH_app ((h.om x).1 hx)) p1 hvo ?_ ?_ ?_ p3 ?_
  ·intro x hx hcx
   obtain ⟨u, hu, hum, hue⟩ := find_has ((h.om x).1 hx)
   rw [← hue, parH_mem h.hn hum] at hcx
   exact hup u hum hcx
  ·rw [hpv]; exact fun p hp => (h.om p).2 (ha p hp)
  ·rw [hpv]; exact p2
  ·rw [hpv]; exact p4
 ·rw [e6]
  refine hds_pw h.hd fun hc => ?_
  have := ((h.hm _).1 hc).1
  rw [h1] at this; cases this
 ·intro x
  rw [e6, e2, hds_mem, hhas]
  constructor
  ·rintro (rfl | ⟨h3, h4⟩)
   ·refine ⟨.inl rfl, fun u hu => ?_⟩
    rcases List.mem_append.1 hu with hu | hu
    ·exact hup u hu
    ·rw [List.mem_singleton] at hu; subst hu; exact hps
   ·obtain ⟨h5, h6⟩ := (h.hm x).1 h3
    refine ⟨.inr h5, fun u hu => ?_⟩
    rcases List.mem_append.1 hu with hu | hu
    ·exact h6 u hu
    ·rw [List.mem_singleton] at hu; subst hu; exact h4
  ·rintro ⟨h3 | h3, h4⟩
   ·exact .inl h3
   ·exact .inr ⟨(h.hm x).2 ⟨h3, fun u hu => h4 u (by simp [hu])⟩, h4 v (by simp)⟩
theorem DI.waits {g g' : DG} {v : VX} (h : DI g) (hc : chkV v = 0) (h1 : hasB g.held v.id = false) (h2 : hasB g.wait v.id = false) (hr : (g.wait.length : Int) + 1 ≤ g.room)
  (t : g'.room = g.room ∧ g'.held = g.held ∧ g'.wait = g.wait ++ [v] ∧ g'.queue = g.queue ++ [v.id] ∧ g'.order = g.order ∧ g'.heads = g.heads) : DI g' := by
 obtain ⟨e1, e2, e3, e4, e5, e6⟩ := t
 refine ⟨by rw [e1]; exact h.room, by rw [e2]; exact h.hl, by rw [e2]; exact h.hn, ?_, ?_, by rw [e2]; exact h.hc, ?_, by rw [e4, e3, h.q, List.map_append]; rfl, by rw [e3, e1, List.length_append]; simp; omega, by rw [e2]; exact h.ck, by rw [e2]; exact h.cl, by rw [e5, e2]; exact h.om, by rw [e5, e2]; exact h.oo, by rw [e6]; exact h.hd, by rw [e6, e2]; exact h.hm⟩
 ·rw [e3, List.map_append, List.nodup_append]
  refine ⟨h.wn, by simp, fun a ha b hb => ?_⟩
  simp only [List.map_cons, List.map_nil, List.mem_singleton] at hb
  subst hb
  obtain ⟨u, hu, rfl⟩ := List.mem_map.1 ha
  exact hasB_no.1 h2 u hu
 ·rw [e3, e2]
  intro u hu
  rcases List.mem_append.1 hu with hu | hu
  ·exact h.dj u hu
  ·rw [List.mem_singleton] at hu; subst hu; exact h1
 ·rw [e3]
  intro u hu
  rcases List.mem_append.1 hu with hu | hu
  ·exact h.wc u hu
  ·rw [List.mem_singleton] at hu; subst hu; exact hc
theorem ix_has (x : Hs) : ∀ (l : List VX) (t : Nat), hasB l x = true → ∃ i : Nat, i < l.length ∧ ixF x (l.map (·.id)) t = ((t + i : Nat) : Int) ∧ (l.eraseP (isV x)).map (·.id) = (l.map (·.id)).take i ++ (l.map (·.id)).drop (i + 1)
 | [], t, h => by rw [hasB_iff] at h; obtain ⟨v, hv, _⟩ := h; cases hv
 | v :: r, t, h => by
  by_cases hx : x = v.id
  ·refine ⟨0, by simp, by simp [ixF, hx], ?_⟩
   rw [List.eraseP_cons, isV_iff.2 hx.symm]
   simp
  ·have hne : isV x v = false := by rw [Bool.eq_false_iff, Ne, isV_iff]; exact fun e => hx e.symm
   have hr : hasB r x = true := by
    rw [hasB_iff] at h ⊢
    obtain ⟨u, hu, e⟩ := h
    rcases List.mem_cons.1 hu with rfl | hu
    ·exact absurd e.symm hx
    ·exact ⟨u, hu, e⟩
   obtain ⟨i, h1, h2, h3⟩ := ix_has x r (t + 1) hr
   refine ⟨i + 1, by simp; omega, ?_, ?_⟩
   ·rw [List.map_cons, ixF, if_neg hx, h2]; congr 1; omega
   ·rw [List.eraseP_cons, hne]
    simp [h3]
theorem DI.ix {g : DG} (h : DI g) (x : Hs) : hasB g.wait x = true → ∃ i : Nat, i < g.queue.length ∧ ixF x g.queue 0 = (i : Int) := fun hx => by
 obtain ⟨i, h1, h2, _⟩ := ix_has x g.wait 0 hx
 rw [← h.q, Nat.zero_add] at h2
 exact ⟨i, by rw [h.q, List.length_map]; exact h1, h2⟩
theorem erase_mem {l : List VX} (hn : (l.map (·.id)).Nodup) {x : Hs} {v : VX} : v ∈ l.eraseP (isV x) ↔ v ∈ l ∧ v.id ≠ x := by
 induction l with
 | nil => simp
 | cons u r ih =>
  rw [List.map_cons, List.nodup_cons] at hn
  rw [List.eraseP_cons]
  by_cases hu : isV x u = true
  ·have hx := isV_iff.1 hu
   rw [hu]
   simp only [if_true, cond_true, List.mem_cons]
   constructor
   ·intro hv
    refine ⟨.inr hv, fun e => hn.1 (List.mem_map.2 ⟨v, hv, by rw [hx]; exact e⟩)⟩
   ·rintro ⟨rfl | hv, hne⟩
    ·exact absurd hx hne
    ·exact hv
  ·rw [Bool.eq_false_iff.2 hu]
   simp only [cond_false, List.mem_cons, ih hn.2]
   constructor
   ·rintro (rfl | ⟨h1, h2⟩)
    ·exact ⟨.inl rfl, fun e => hu (isV_iff.2 e)⟩
    ·exact ⟨.inr h1, h2⟩
   ·rintro ⟨rfl | h1, h2⟩
    ·exact .inl rfl
    ·exact .inr ⟨h1, h2⟩
theorem DI.forgets {g g' : DG} {x : Hs} {i : Nat} (h : DI g) (hx : hasB g.wait x = true) (hi : ixF x g.queue 0 = (i : Int))
  (t : g'.room = g.room ∧ g'.held = g.held ∧ g'.wait = g.wait.eraseP (isV x) ∧ g'.queue = g.queue.take i ++ g.queue.drop (i + 1) ∧ g'.order = g.order ∧ g'.heads = g.heads) : DI g' := by
 obtain ⟨e1, e2, e3, e4, e5, e6⟩ := t
 obtain ⟨j, h1, h2, h3⟩ := ix_has x g.wait 0 hx
 rw [← h.q, Nat.zero_add, hi] at h2
 have hij : i = j := Int.ofNat.inj h2
 subst hij
 refine ⟨by rw [e1]; exact h.room, by rw [e2]; exact h.hl, by rw [e2]; exact h.hn, ?_, ?_, by rw [e2]; exact h.hc, ?_, by rw [e4, e3, h.q, h3], ?_, by rw [e2]; exact h.ck, by rw [e2]; exact h.cl, by rw [e5, e2]; exact h.om, by rw [e5, e2]; exact h.oo, by rw [e6]; exact h.hd, by rw [e6, e2]; exact h.hm⟩
 ·rw [e3]; exact h.wn.sublist (List.eraseP_sublist.map _)
 ·rw [e3, e2]; exact fun u hu => h.dj u (List.mem_of_mem_eraseP hu)
 ·rw [e3]; exact fun u hu => h.wc u (List.mem_of_mem_eraseP hu)
 ·rw [e3, e1]; have := List.length_eraseP_le (p := isV x) (l := g.wait); have := h.ql; omega
end Go.Proofs.Ytogmdfhicbmplaa
