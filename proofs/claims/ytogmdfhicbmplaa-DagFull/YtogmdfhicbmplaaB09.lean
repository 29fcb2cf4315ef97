import Derived.Test.YtogmdfhicbmplaaB08
import Derived.Test.YtogmdfhicbmplaaB05
namespace Go.Proofs.Ytogmdfhicbmplaa
open Go.RowKit
set_option linter.unusedSimpArgs false
set_option linter.unusedVariables false

theorem Try.in50 (w : World) (vs : Array Value) : (callFunc 50 vs).run Try.prog w = .ok (.enter 50 vs) w := by kernel_rfl
theorem Try.in77 (w : World) (vs : Array Value) : (callFunc 77 vs).run Try.prog w = .ok (.enter 77 vs) w := by kernel_rfl
/-- The ones that are missing, of some vertices that wait. -/
def misP (g : DG) (x : Hs) : Bool := !hasB g.held x && !hasB g.wait x
def misL (g : DG) (l : List VX) : List Hs := (l.flatMap (·.ps)).filter (misP g)
theorem misL_app (g : DG) (l : List VX) (v : VX) : misL g (l ++ [v]) = misL g l ++ v.ps.filter (misP g) := by unfold misL; rw [List.flatMap_append, List.filter_append]; simp
theorem fld_ps (c : Nat → Int) (k : Int) (a : Option Addr) (n m : Nat) (w : World) : (Instr.field 39 (.agg (vtx c k (.slice a n m))) 2).run Try.prog w = .ok (.slice a n m) w := by kernel_rfl
set_option maxRecDepth 8000 in
set_option maxHeartbeats 1000000 in
theorem missing_any (B0 d : Nat) (g : DG) (w : World) (hD : DS B0 w d g) : Calls Try.prog 50 #[ptr d] w fun e w' => ∃ v' L', e = .returned v' ∧ Fresh w w' v' L' ∧ L'.Pairwise Lt ∧ (∀ x, x ∈ L' ↔ x ∈ misL g g.wait) ∧ L'.length ≤ 4096 := by
 have HD := Keep.mk hD
 obtain ⟨qa, qc, hqv⟩ := hD.at'.oq.sl
 have Hqv := Keep.mk hqv
 clear hD hqv
 go_enter Try.func50, Try.ntmps50
 refine wp_seq_k fun K1 hK1 => rgn ?_
 refine VlS (.slice none 0 0) ?_
 refine WL.nil (hK1 _ _ ?_)
 refine wp_seq_k fun K2 hK2 => rgn ?_
 refine VlS (.slice none 0 0) ?_
 refine WL.nil (hK2 _ _ ?_)
 refine wp_seq_k fun K3 hK3 => ?_
 refine wp_seq_k fun K4 hK4 => ?_
 have c5 : w.cell? ⟨d, 5, none⟩ = some (.slice qa g.queue.length qc) := by have h := HD.out.at'.blk.c 5 (by rfl : (dgA g)[5]? = some g.qv); rw [Hqv.out] at h; exact h
 refine rgn ?_
 refine VlS (.pointer (some ⟨d, 0, none⟩)) ?_
 refine VlS (.pointer (some ⟨d, 0, none⟩)) ?_
 refine VlS (.pointer (some ⟨d, 5, none⟩)) ?_
 refine VlS (.slice qa g.queue.length qc) ?_
 refine VlS (.int .i64 (g.queue.length : Int)) ?_
 refine VlS (.int .i64 0) ?_
 refine WL.nil (hK4 _ _ ?_)
 refine wp_block ?_
 refine wp_loop (fun ac wr => ∃ (t : Nat) (u3 u5 u7 u14 u15 u16 u17 u18 u19 u20 u21 u22 u23 u24 u25 u26 u27 u28 u29 u30 u31 u32 u33 u34 u35 u36 u37 u38 u39 u40 u41 u42 u43 u44 : Value), ac = { tmps := #[.pointer (some ⟨d, 0, none⟩), undef, .slice none 0 0, u3, undef, u5, undef, u7, .pointer (some ⟨d, 0, none⟩), .pointer (some ⟨d, 0, none⟩), .pointer (some ⟨d, 5, none⟩), .slice qa g.queue.length qc, .int .i64 (g.queue.length : Int), .int .i64 (t : Int), u14, u15, u16, u17, u18, u19, u20, u21, u22, u23, u24, u25, u26, u27, u28, u29, u30, u31, u32, u33, u34, u35, u36, u37, u38, u39, u40, u41, u42, u43, u44, undef, undef], defers := [] } ∧ t ≤ g.queue.length ∧ Below w.heap.size w wr ∧ OwnH wr u3 (misL g (g.wait.take t)) ∧ (∀ i, u3.ownBlock = some i → w.heap.size ≤ i) ∧ (misL g (g.wait.take t)).length ≤ 64 * t) (fun a _ => g.queue.length - (intOf (a.tmps.getD 13 undef)).toNat) ⟨0, .slice none 0 0, undef, undef, undef, undef, undef, undef, undef, undef, undef, undef, undef, undef, undef, undef, undef, undef, undef, undef, undef, undef, undef, undef, undef, undef, undef, undef, undef, undef, undef, undef, undef, undef, undef, rfl, by omega, Below.refl _ _, ownH_nil _, (fun i hi => by cases hi), Nat.le_refl _⟩ ?_
 rintro ac wr ⟨t, u3, u5, u7, u14, u15, u16, u17, u18, u19, u20, u21, u22, u23, u24, u25, u26, u27, u28, u29, u30, u31, u32, u33, u34, u35, u36, u37, u38, u39, u40, u41, u42, u43, u44, rfl, ht, hB, hO, hN, hC⟩
 have JB := Keep.mk hB
 have JO := Keep.mk hO
 have JN := Keep.mk hN
 have JC := Keep.mk hC
 clear hB hO hN hC
 have HDr := Keep.mk (HD.out.below JB.out)
 by_cases htl : t < g.queue.length
 ·have htl' : (t : Int) < (g.queue.length : Int) := by omega
  have hwt : IntKind.i64.wrap ((t : Int) + 1) = ((t + 1 : Nat) : Int) := by rw [IntKind.wrap_i64]; have := HD.out.di.qlen; have := HD.out.di.wl; omega
  have htw : t < g.wait.length := by rw [← HD.out.di.qlen]; exact htl
  obtain ⟨v, hv⟩ : ∃ v, Keep (v = g.wait[t]) := ⟨_, ⟨rfl⟩⟩
  have hvm : v ∈ g.wait := by rw [hv.out]; exact List.getElem_mem htw
  obtain ⟨gp, op, hpa, -, -, hrg⟩ := (Hqv.out ▸ HDr.out.at'.oq.row : HRow wr (.slice qa g.queue.length qc) g.queue).at (by omega)
  have hel := rangeAt_elem hrg t htl
  have hqi : g.queue[t] = v.id := by rw [hv.out]; simp [HD.out.di.q]
  rw [hqi] at hel
  have Hel := Keep.mk hel
  have HF := Keep.mk (find_mem HD.out.di.wn hvm)
  have HVl := Keep.mk (chk_ok (HD.out.di.wc v hvm)).1
  subst hpa
  clear hel hrg hqi
  refine wp_seq_k fun K5 hK5 => rgn ?_
  refine VlS (.bool true) ?_
  refine WL.nil (hK5 _ _ ?_)
  refine wp_seq_k fun K6 hK6 => ?_
  refine wp_cond_true rfl ?_
  refine wp_skip ?_
  refine hK6 _ _ ?_
  refine wp_seq_k fun K7 hK7 => ?_
  refine wp_block ?_
  refine wp_seq_k fun K8 hK8 => rgn ?_
  refine VlS (.pointer (some ⟨gp, op + t * 32, none⟩)) ?_
  refine WL.mid (by kernel_rfl) 36 (.tmp 15) rfl gp (op + t * 32) rfl (encH v.id) _ Hel.out Try.underlying36 rfl (Try.size36L v.id) ?_
  rw [enc_load]
  simp only [Act.put, pqA, pqB, pqC]
  refine WL.new (by kernel_rfl) 36 rfl _ Try.new36 ?_
  simp only [Act.put, pqA, pqB, pqC]
  refine WL.storeR (by kernel_rfl) 36 (.tmp 5) (.tmp 16) rfl wr.heap.size (bytesA 32 v.id.f) rfl rfl 36 (bytesA 32 fun _ => 0) (Blk.new wr 36 _) (Try.size36B _) (bytesA_sizes _ _ _) (bytesA_one _ _) ?_
  have HX2 := Keep.mk ((Blk.new wr 36 (bytesA 32 fun _ => 0)).setRow (bytesA 32 v.id.f))
  have B2 : Keep (Below wr.heap.size wr ((wr.alloc (.cells (bytesA 32 fun _ => 0) 36)).setRow wr.heap.size (bytesA 32 v.id.f))) := ⟨below_setRow (below_new wr _) (Nat.le_refl _) _⟩
  generalize (wr.alloc (.cells (bytesA 32 fun _ => 0) 36)).setRow wr.heap.size (bytesA 32 v.id.f) = w2 at *
  have HD2 := Keep.mk (HDr.out.below B2.out)
  have JB2 : Keep (Below w.heap.size w w2) := ⟨belowT JB.out B2.out⟩
  have JO2 := Keep.mk (JO.out.below B2.out)
  have Nb : Keep (∀ k, u3.ownBlock = some k → k ≠ wr.heap.size) := ⟨fun k hk e => by have := JO.out.lt k hk; omega⟩
  have Hlo : Keep (w.heap.size ≤ wr.heap.size) := ⟨JB.out.size⟩
  generalize wr.heap.size = bb at *
  clear Hel
  simp only [Act.put]
  refine WL.nil (hK8 _ _ ?_)
  refine wp_seq_k fun K9 hK9 => ?_
  obtain ⟨es, ck, c0, k0, pa, pn, pm, hes, hl1, hl2, hcs⟩ := look1 HD.out.at'.wait v.id
  have HC : Keep (HRow w (.slice pa pn pm) v.ps) := ⟨hcs.elim (fun h => absurd (HF.out.symm.trans h.1) (by simp)) fun ⟨v', h, h2, h3, h4, _⟩ => by cases Option.some.inj (HF.out.symm.trans h); exact h4⟩
  have hpn : pn = v.ps.length := by obtain ⟨a', c', e⟩ := HC.out.form; injection e
  subst hpn
  obtain ⟨vv, hvv⟩ : ∃ a : Array Value, Keep (a = vtx c0 k0 (.slice pa v.ps.length pm)) := ⟨_, ⟨rfl⟩⟩
  rw [← hvv.out] at hl2
  have H1 := Keep.mk hl2
  have hS0 : Keep ((fun wx => wx.cell? ⟨d, 4, none⟩ = some (.map (some g.wb)) ∧ wx.rangeAt bb 0 (bytesA 32 v.id.f).toList ∧ wx.heap[g.wb]? = some (.map es ck)) w2.drew) := ⟨⟨HD2.out.at'.blk.drew.c 4 rfl, blk_rng HX2.out.drew, by show w2.heap[g.wb]? = _; rw [JB2.out.block _ (Array.getElem?_eq_some_iff.1 hes).1]; exact hes⟩⟩
  clear hl1 hl2 hcs hes
  refine wp_region_held_drew (S := fun wx => wx.cell? ⟨d, 4, none⟩ = some (.map (some g.wb)) ∧ wx.rangeAt bb 0 (bytesA 32 v.id.f).toList ∧ wx.heap[g.wb]? = some (.map es ck)) (by kernel_rfl) (hS0.out) (fun hHeld => ?_)
  refine tkS (i := 0) (oi := ⟨some 17, Op.move (Operand.tmp 0), 27, _, _, none⟩) (v := .pointer (some ⟨d, 0, none⟩)) rfl (Or.inl ⟨by rfl, fun w hS => by obtain ⟨hS1, hS2, hS3⟩ := hS; go_simp⟩) hHeld ?_
  refine tkS (i := 1) (oi := ⟨some 18, Op.nilCheck (Operand.tmp 17), 0, _, _, none⟩) (v := .pointer (some ⟨d, 0, none⟩)) rfl (Or.inl ⟨by rfl, fun w hS => by obtain ⟨hS1, hS2, hS3⟩ := hS; go_simp⟩) hHeld ?_
  refine tkS (i := 2) (oi := ⟨some 19, Op.fieldAddr 77 (Operand.tmp 18) 4, 0, _, _, none⟩) (v := .pointer (some ⟨d, 4, none⟩)) rfl (Or.inl ⟨by rfl, fun w hS => by obtain ⟨hS1, hS2, hS3⟩ := hS; go_simp⟩) hHeld ?_
  refine tkS (i := 3) (oi := ⟨some 20, Op.load 75 (Operand.tmp 19), 75, _, _, none⟩) (v := .map (some g.wb)) rfl (Or.inl ⟨by rfl, fun w hS => by obtain ⟨hS1, hS2, hS3⟩ := hS; go_simp⟩) hHeld ?_
  refine tkS (i := 4) (oi := ⟨some 21, Op.load 36 (Operand.tmp 5), 36, _, _, none⟩) (v := .agg (bytesA 32 v.id.f)) rfl (yieldsIf_ld (by rfl) (Operand.tmp 5) 36 rfl bb 0 rfl (bytesA 32 v.id.f) _ Try.underlying36 rfl (size36A _) fun w hS => hS.2.1) hHeld ?_
  refine tkS (i := 5) (oi := ⟨some 22, Op.lookup 75 (Operand.tmp 20) (Operand.tmp 21) false, 39, _, _, none⟩) (v := .agg vv) rfl (yieldsIf_look (by rfl) (Operand.tmp 20) (Operand.tmp 21) false rfl g.wb v.id.f rfl rfl _ fun wx hS => H1.out wx hS.2.2) hHeld ?_
  refine tkS (i := 6) (oi := ⟨some 23, Op.field 39 (Operand.tmp 22) 2, 37, _, _, none⟩) (v := .slice pa v.ps.length pm) rfl (yieldsIf_fld (by rfl) (Operand.tmp 22) 39 2 rfl _ _ rfl fun w => by rw [hvv.out]; exact fld_ps _ _ _ _ _ w) hHeld ?_
  refine tkS (i := 7) (oi := ⟨some 24, Op.call { callee := Callee.builtin Builtin.len, args := #[Operand.tmp 23], argTypes := #[37] }, 3, _, _, none⟩) (v := .int .i64 (v.ps.length : Int)) rfl (Or.inl ⟨by rfl, fun w hS => by obtain ⟨hS1, hS2, hS3⟩ := hS; go_simp⟩) hHeld ?_
  refine tkS (i := 8) (oi := ⟨some 25, Op.move (Operand.const (Value.int IntKind.i64 0)), 3, _, _, none⟩) (v := .int .i64 0) rfl (Or.inl ⟨by rfl, fun w hS => by obtain ⟨hS1, hS2, hS3⟩ := hS; go_simp⟩) hHeld ?_
  refine wpAnyH_done (by kernel_rfl) ?_ _
  refine hK9 _ _ ?_
  refine wp_block ?_
  have JB3 : Keep (Below w.heap.size w w2.drew) := ⟨JB2.out.drew⟩
  have JO3 := Keep.mk (JO2.out.below (Below.refl _ w2).drew)
  clear HD2 JB2 JO2 HX2 B2
  generalize w2.drew = w3 at *
  refine wp_loop (fun ac wi => ∃ (k : Nat) (z3 z7 z26 z27 z28 z29 z30 z31 z32 z33 z34 z35 z36 z37 z38 z39 z40 z41 z42 z43 : Value), ac = { tmps := #[.pointer (some ⟨d, 0, none⟩), undef, .slice none 0 0, z3, undef, .pointer (some ⟨bb, 0, none⟩), undef, z7, .pointer (some ⟨d, 0, none⟩), .pointer (some ⟨d, 0, none⟩), .pointer (some ⟨d, 5, none⟩), .slice (some ⟨gp, op, none⟩) g.queue.length qc, .int .i64 (g.queue.length : Int), .int .i64 (t : Int), .bool true, .pointer (some ⟨gp, op + t * 32, none⟩), .agg (bytesA 32 v.id.f), .pointer (some ⟨d, 0, none⟩), .pointer (some ⟨d, 0, none⟩), .pointer (some ⟨d, 4, none⟩), .map (some g.wb), .agg (bytesA 32 v.id.f), .agg vv, .slice pa v.ps.length pm, .int .i64 (v.ps.length : Int), .int .i64 (k : Int), z26, z27, z28, z29, z30, z31, z32, z33, z34, z35, z36, z37, z38, z39, z40, z41, z42, z43, u44, undef, undef], defers := [] } ∧ k ≤ v.ps.length ∧ Below w.heap.size w wi ∧ OwnH wi z3 (misL g (g.wait.take t) ++ (v.ps.take k).filter (misP g)) ∧ (∀ i, z3.ownBlock = some i → w.heap.size ≤ i) ∧ (misL g (g.wait.take t) ++ (v.ps.take k).filter (misP g)).length ≤ 64 * t + k) (fun a _ => v.ps.length - (intOf (a.tmps.getD 25 undef)).toNat) ⟨0, u3, u7, u26, u27, u28, u29, u30, u31, u32, u33, u34, u35, u36, u37, u38, u39, u40, u41, u42, u43, rfl, by omega, JB3.out, by rw [List.take_zero, List.filter_nil, List.append_nil]; exact JO3.out, JN.out, by rw [List.take_zero, List.filter_nil, List.append_nil]; exact JC.out⟩ ?_
  rintro ac wi ⟨k, z3, z7, z26, z27, z28, z29, z30, z31, z32, z33, z34, z35, z36, z37, z38, z39, z40, z41, z42, z43, rfl, hk, hB, hO, hN, hC⟩
  have KB := Keep.mk hB
  have KO := Keep.mk hO
  have KN := Keep.mk hN
  have KC := Keep.mk hC
  clear hB hO hN hC
  have HDi := Keep.mk (HD.out.below KB.out)
  by_cases hkl : k < v.ps.length
  ·have hkl' : (k : Int) < (v.ps.length : Int) := by omega
   have hwk : IntKind.i64.wrap ((k : Int) + 1) = ((k + 1 : Nat) : Int) := by rw [IntKind.wrap_i64]; have := HVl.out; omega
   obtain ⟨gq, oq, hqa, -, -, hrq⟩ := (HC.out.below KB.out).at (by omega)
   have hel := rangeAt_elem hrq k hkl
   obtain ⟨y, hy⟩ : ∃ y, Keep (y = v.ps[k]) := ⟨_, ⟨rfl⟩⟩
   rw [← hy.out] at hel
   have Hel := Keep.mk hel
   subst hqa
   clear hel hrq
   refine wp_seq_k fun K10 hK10 => rgn ?_
   refine VlS (.bool true) ?_
   refine WL.nil (hK10 _ _ ?_)
   refine wp_seq_k fun K11 hK11 => ?_
   refine wp_cond_true rfl ?_
   refine wp_skip ?_
   refine hK11 _ _ ?_
   refine wp_seq_k fun K12 hK12 => ?_
   refine wp_block ?_
   refine wp_seq_k fun K13 hK13 => rgn ?_
   refine VlS (.pointer (some ⟨gq, oq + k * 32, none⟩)) ?_
   refine WL.mid (by kernel_rfl) 36 (.tmp 27) rfl gq (oq + k * 32) rfl (encH y) _ Hel.out Try.underlying36 rfl (Try.size36L y) ?_
   rw [enc_load]
   simp only [Act.put, pqA, pqB, pqC]
   refine WL.new (by kernel_rfl) 36 rfl _ Try.new36 ?_
   simp only [Act.put, pqA, pqB, pqC]
   refine WL.storeR (by kernel_rfl) 36 (.tmp 7) (.tmp 28) rfl wi.heap.size (bytesA 32 y.f) rfl rfl 36 (bytesA 32 fun _ => 0) (Blk.new wi 36 _) (Try.size36B _) (bytesA_sizes _ _ _) (bytesA_one _ _) ?_
   have HY4 := Keep.mk ((Blk.new wi 36 (bytesA 32 fun _ => 0)).setRow (bytesA 32 y.f))
   have B4 : Keep (Below wi.heap.size wi ((wi.alloc (.cells (bytesA 32 fun _ => 0) 36)).setRow wi.heap.size (bytesA 32 y.f))) := ⟨below_setRow (below_new wi _) (Nat.le_refl _) _⟩
   generalize (wi.alloc (.cells (bytesA 32 fun _ => 0) 36)).setRow wi.heap.size (bytesA 32 y.f) = w4 at *
   have HD4 := Keep.mk (HDi.out.below B4.out)
   have KB4 : Keep (Below w.heap.size w w4) := ⟨belowT KB.out B4.out⟩
   have KO4 := Keep.mk (KO.out.below B4.out)
   generalize wi.heap.size = b7 at *
   clear Hel
   simp only [Act.put]
   refine WL.nil (hK13 _ _ ?_)
   refine wp_seq_k fun K14 hK14 => rgn ?_
   refine VlS (.pointer (some ⟨d, 0, none⟩)) ?_
   refine WL.row (by kernel_rfl) 36 (.tmp 7) rfl b7 rfl 36 (bytesA 32 y.f) _ HY4.out Try.underlying36 rfl (Try.size36B _) ?_
   simp only [Act.put, pqA, pqB, pqC]
   obtain ⟨b1, hb1⟩ : ∃ b, Keep (hasB g.held y = b) := ⟨_, ⟨rfl⟩⟩
   obtain ⟨b2, hb2⟩ : ∃ b, Keep (hasB g.wait y = b) := ⟨_, ⟨rfl⟩⟩
   have hhs := has_any d y _ g w4 HD4.out.at'
   rw [show (g.held.find? (isV y)).isSome = b1 from hb1.out] at hhs
   refine WL.callF (by kernel_rfl) 45 _ _ rfl Try.in45 #[ptr d, .agg (bytesA 32 y.f)] (by simp [Act.eval]) ?_
   refine (hhs).mono ?_
   rintro e w5 ⟨rfl, hz⟩
   refine ⟨_, rfl, ?_⟩
   clear hhs
   have HY5 := Keep.mk (HY4.out.below hz HY4.out.lt)
   have HD5 := Keep.mk (HD4.out.below hz)
   have KB5 : Keep (Below w.heap.size w w5) := ⟨belowT KB4.out hz⟩
   have KO5 := Keep.mk (KO4.out.below hz)
   clear hz HY4 HD4 KB4 KO4
   simp only [Act.put, pqA, pqB, pqC]
   by_cases h8_3 : b1 = true
   ·skip
    refine VlS (.bool false) ?_
    refine VlS (.bool false) ?_
    refine SkS ?_
    refine SkS ?_
    refine SkS ?_
    refine SkS ?_
    refine VlS (.bool false) ?_
    refine WL.nil (hK14 _ _ ?_)
    refine wp_cond_false rfl ?_
    refine wp_skip ?_
    refine hK12 _ _ ?_
    refine rgn ?_
    refine VlS (.int .i64 ((k + 1 : Nat) : Int)) ?_
    refine VlS (.int .i64 ((k + 1 : Nat) : Int)) ?_
    refine WL.nil ?_
    have hf : (v.ps.take (k + 1)).filter (misP g) = (v.ps.take k).filter (misP g) ++ (if misP g y = true then [y] else []) := by rw [List.take_succ_eq_append_getElem hkl, List.filter_append, ← hy.out]; congr 1; by_cases h : misP g y = true <;> simp [h]
    have hm : ¬ misP g y = true := by unfold misP; rw [hb1.out, hb2.out]; revert h8_3; (try revert h8_8); cases b1 <;> cases b2 <;> simp
    rw [if_neg hm, List.append_nil] at hf
    refine ⟨⟨k + 1, z3, .pointer (some ⟨b7, 0, none⟩), .bool true, .pointer (some ⟨gq, oq + k * 32, none⟩), .agg (bytesA 32 y.f), .pointer (some ⟨d, 0, none⟩), .agg (bytesA 32 y.f), .bool b1, .bool false, .bool false, undef, undef, undef, undef, .bool false, z39, z40, z41, z42, .int .i64 ((k + 1 : Nat) : Int), rfl, by omega, KB5.out, by rw [hf]; exact KO5.out, KN.out, by rw [hf]; have := KC.out; omega⟩, ?_⟩
    simp only [intOf]; show v.ps.length - (((k + 1 : Nat) : Int)).toNat < v.ps.length - ((k : Int)).toNat; omega
   ·skip
    refine VlS (.bool true) ?_
    refine VlS (.bool true) ?_
    refine VlS (.pointer (some ⟨d, 0, none⟩)) ?_
    refine WL.row (by kernel_rfl) 36 (.tmp 7) rfl b7 rfl 36 (bytesA 32 y.f) _ HY5.out Try.underlying36 rfl (Try.size36B _) ?_
    simp only [Act.put, pqA, pqB, pqC]
    have hws := waits_any d y _ g w5 HD5.out.at'
    rw [show (g.wait.find? (isV y)).isSome = b2 from hb2.out] at hws
    refine WL.callF (by kernel_rfl) 47 _ _ rfl Try.in47 #[ptr d, .agg (bytesA 32 y.f)] (by simp [Act.eval]) ?_
    refine (hws).mono ?_
    rintro e w6 ⟨rfl, hz⟩
    refine ⟨_, rfl, ?_⟩
    clear hws
    have HY6 := Keep.mk (HY5.out.below hz HY5.out.lt)
    have KB6 : Keep (Below w.heap.size w w6) := ⟨belowT KB5.out hz⟩
    have KO6 := Keep.mk (KO5.out.below hz)
    clear hz
    simp only [Act.put, pqA, pqB, pqC]
    by_cases h8_8 : b2 = true
    ·skip
     refine VlS (.bool false) ?_
     refine VlS (.bool false) ?_
     refine WL.nil (hK14 _ _ ?_)
     refine wp_cond_false rfl ?_
     refine wp_skip ?_
     refine hK12 _ _ ?_
     refine rgn ?_
     refine VlS (.int .i64 ((k + 1 : Nat) : Int)) ?_
     refine VlS (.int .i64 ((k + 1 : Nat) : Int)) ?_
     refine WL.nil ?_
     have hf : (v.ps.take (k + 1)).filter (misP g) = (v.ps.take k).filter (misP g) ++ (if misP g y = true then [y] else []) := by rw [List.take_succ_eq_append_getElem hkl, List.filter_append, ← hy.out]; congr 1; by_cases h : misP g y = true <;> simp [h]
     have hm : ¬ misP g y = true := by unfold misP; rw [hb1.out, hb2.out]; revert h8_3; (try revert h8_8); cases b1 <;> cases b2 <;> simp
     rw [if_neg hm, List.append_nil] at hf
     refine ⟨⟨k + 1, z3, .pointer (some ⟨b7, 0, none⟩), .bool true, .pointer (some ⟨gq, oq + k * 32, none⟩), .agg (bytesA 32 y.f), .pointer (some ⟨d, 0, none⟩), .agg (bytesA 32 y.f), .bool b1, .bool true, .bool true, .pointer (some ⟨d, 0, none⟩), .agg (bytesA 32 y.f), .bool b2, .bool false, .bool false, z39, z40, z41, z42, .int .i64 ((k + 1 : Nat) : Int), rfl, by omega, KB6.out, by rw [hf]; exact KO6.out, KN.out, by rw [hf]; have := KC.out; omega⟩, ?_⟩
     simp only [intOf]; show v.ps.length - (((k + 1 : Nat) : Int)).toNat < v.ps.length - ((k : Int)).toNat; omega
    ·skip
     refine VlS (.bool true) ?_
     refine VlS (.bool true) ?_
     refine WL.nil (hK14 _ _ ?_)
     refine wp_cond_true rfl ?_
     refine rgn ?_
     refine VlS (z3) ?_
     refine WL.row (by kernel_rfl) 36 (.tmp 7) rfl b7 rfl 36 (bytesA 32 y.f) _ HY6.out Try.underlying36 rfl (Try.size36B _) ?_
     simp only [Act.put, pqA, pqB, pqC]
     refine WL.bs (by kernel_rfl) 37 1 _ rfl #[(0, .agg (bytesA 32 y.f))] (by simp [Act.eval]) _ _ (bsH y w6) ?_
     have HGy := Keep.mk (Blk.new w6 36 (bytesA 32 y.f))
     have B7 := Keep.mk (below_new w6 (.cells (bytesA 32 y.f) 36))
     generalize w6.alloc (.cells (bytesA 32 y.f) 36) = w7 at *
     have KB7 : Keep (Below w.heap.size w w7) := ⟨belowT KB6.out B7.out⟩
     have KO7 := Keep.mk (KO6.out.below B7.out)
     generalize w6.heap.size = gy at *
     simp only [Act.put, pqA, pqB, pqC]
     refine WL.appH (by kernel_rfl) (.tmp 39) (.tmp 41) rfl _ _ gy y rfl rfl KO7.out HGy.out (by have := KC.out; have := HD.out.di.qlen; have := HD.out.di.wl; have := HVl.out; omega) fun v8 w8 h1 h2 h3 => ?_
     have KO8 := Keep.mk h1
     have G8 := Keep.mk h2
     have M8 := Keep.mk h3
     clear h1 h2 h3
     simp only [Act.put, pqA, pqB, pqC]
     refine VlS (v8) ?_
     refine WL.nil (hK12 _ _ ?_)
     refine rgn ?_
     refine VlS (.int .i64 ((k + 1 : Nat) : Int)) ?_
     refine VlS (.int .i64 ((k + 1 : Nat) : Int)) ?_
     refine WL.nil ?_
     have hf : (v.ps.take (k + 1)).filter (misP g) = (v.ps.take k).filter (misP g) ++ (if misP g y = true then [y] else []) := by rw [List.take_succ_eq_append_getElem hkl, List.filter_append, ← hy.out]; congr 1; by_cases h : misP g y = true <;> simp [h]
     have hm : misP g y = true := by unfold misP; rw [hb1.out, hb2.out]; revert h8_3; (try revert h8_8); cases b1 <;> cases b2 <;> simp
     rw [if_pos hm] at hf
     refine ⟨⟨k + 1, v8, .pointer (some ⟨b7, 0, none⟩), .bool true, .pointer (some ⟨gq, oq + k * 32, none⟩), .agg (bytesA 32 y.f), .pointer (some ⟨d, 0, none⟩), .agg (bytesA 32 y.f), .bool b1, .bool true, .bool true, .pointer (some ⟨d, 0, none⟩), .agg (bytesA 32 y.f), .bool b2, .bool true, .bool true, z3, .agg (bytesA 32 y.f), .slice (some ⟨gy, 0, none⟩) 1 1, v8, .int .i64 ((k + 1 : Nat) : Int), rfl, by omega, KB7.out.trans (G8.out.to_below (fun i hi e => by have := KN.out i e; omega) KB7.out.size), by rw [hf, ← List.append_assoc]; exact KO8.out, fun i hi => M8.out.elim (fun e => KN.out i (by have e' : v8.ownBlock = z3.ownBlock := e; rw [← e']; exact hi)) fun ⟨q, e, hq⟩ => by rw [hi] at e; have := Option.some.inj e; have := KB7.out.size; omega, by rw [hf]; have := KC.out; simp only [List.length_append, List.length_singleton] at this ⊢; omega⟩, ?_⟩
     simp only [intOf]; show v.ps.length - (((k + 1 : Nat) : Int)).toNat < v.ps.length - ((k : Int)).toNat; omega
  ·have hke : k = v.ps.length := by omega
   have hkl' : ¬ (k : Int) < (v.ps.length : Int) := by omega
   refine wp_seq_k fun K15 hK15 => rgn ?_
   refine VlS (.bool false) ?_
   refine WL.nil (hK15 _ _ ?_)
   refine wp_seq_k fun K16 hK16 => ?_
   refine wp_cond_false rfl ?_
   refine wp_exit ?_
   refine hK7 _ _ ?_
   refine rgn ?_
   refine VlS (.int .i64 ((t + 1 : Nat) : Int)) ?_
   refine VlS (.int .i64 ((t + 1 : Nat) : Int)) ?_
   refine WL.nil ?_
   have hfl : misL g (g.wait.take (t + 1)) = misL g (g.wait.take t) ++ (v.ps.take k).filter (misP g) := by rw [List.take_succ_eq_append_getElem htw, misL_app, ← hv.out, hke, List.take_length]
   refine ⟨⟨t + 1, z3, .pointer (some ⟨bb, 0, none⟩), z7, .bool true, .pointer (some ⟨gp, op + t * 32, none⟩), .agg (bytesA 32 v.id.f), .pointer (some ⟨d, 0, none⟩), .pointer (some ⟨d, 0, none⟩), .pointer (some ⟨d, 4, none⟩), .map (some g.wb), .agg (bytesA 32 v.id.f), .agg vv, .slice pa v.ps.length pm, .int .i64 (v.ps.length : Int), .int .i64 (k : Int), .bool false, z27, z28, z29, z30, z31, z32, z33, z34, z35, z36, z37, z38, z39, z40, z41, z42, z43, .int .i64 ((t + 1 : Nat) : Int), rfl, by omega, KB.out, by rw [hfl]; exact KO.out, KN.out, by rw [hfl]; have := KC.out; have := HVl.out; omega⟩, ?_⟩
   simp only [intOf]; show g.queue.length - (((t + 1 : Nat) : Int)).toNat < g.queue.length - ((t : Int)).toNat; omega
 ·have hte : t = g.queue.length := by omega
  have htl' : ¬ (t : Int) < (g.queue.length : Int) := by omega
  refine wp_seq_k fun K17 hK17 => rgn ?_
  refine VlS (.bool false) ?_
  refine WL.nil (hK17 _ _ ?_)
  refine wp_seq_k fun K18 hK18 => ?_
  refine wp_cond_false rfl ?_
  refine wp_exit ?_
  refine hK3 _ _ ?_
  refine wp_seq_k fun K19 hK19 => rgn ?_
  refine VlS (u3) ?_
  have hso := sort_any u3 _ wr JO.out.row (by have := JC.out; have := HD.out.di.qlen; have := HD.out.di.wl; omega)
  refine WL.callF (by kernel_rfl) 77 _ _ rfl Try.in77 #[u3] (by simp [Act.eval]) ?_
  refine (hso.mono (R' := fun e w' => ∃ v' L', e = .returned v' ∧ OwnH w' v' L' ∧ (∀ k, v'.ownBlock = some k → wr.heap.size ≤ k) ∧ L'.Pairwise Lt ∧ (∀ x, x ∈ L' ↔ x ∈ misL g g.wait) ∧ L'.length ≤ 4096 ∧ Below wr.heap.size wr w') (fun e w' ⟨v', L', h1, h2, h3, h4, h5, h6⟩ => ⟨v', L', h1, OwnH.of h2, ownsH_block h2, h3, by rw [hte, HD.out.di.qlen, List.take_length] at h4; exact h4, by have := JC.out; have := HD.out.di.qlen; have := HD.out.di.wl; omega, h6⟩)).mono ?_
  rintro e w9 ⟨v9, L9, rfl, h1, h2, h3, h4, h5, h6⟩
  refine ⟨_, rfl, ?_⟩
  clear hso
  have R1 := Keep.mk h1
  have R2 := Keep.mk h2
  have R3 := Keep.mk h3
  have R4 := Keep.mk h4
  have R5 := Keep.mk h5
  have R6 := Keep.mk h6
  clear h1 h2 h3 h4 h5 h6
  simp only [Act.put, pqA, pqB, pqC]
  refine VlS (v9) ?_
  refine WL.nil (hK19 _ _ ?_)
  refine wp_ret ?_
  go_ret
  exact ⟨v9, L9, rfl, ⟨R1.out, fun k hk => Nat.le_trans JB.out.size (R2.out k hk), belowT JB.out R6.out⟩, R3.out, R4.out, R5.out⟩
end Go.Proofs.Ytogmdfhicbmplaa
namespace Go.Proofs.Ytogmdfhicbmplaa
open Go.RowKit
set_option linter.unusedSimpArgs false
set_option linter.unusedVariables false

/-! ### What a Dag tells, list by list. -/
/-- v is a slice of six lists that are one's own, above B. -/
structure LsAt (w : World) (B : Nat) (v : Value) (gl : Nat) (V : Nat → Value) (L : Nat → List Hs) : Prop where
 eq : ∃ c, v = .slice (some ⟨gl, 0, none⟩) 6 c
 cell : ∀ i, i < 6 → w.cell? ⟨gl, i, none⟩ = some (V i)
 typ : Typ w gl 37
 lo : B ≤ gl
 own : ∀ i, i < 6 → OwnH w (V i) (L i)
 new : ∀ i, i < 6 → ∀ k, (V i).ownBlock = some k → B ≤ k
theorem LsAt.grown {w w' : World} {B : Nat} {v : Value} {gl : Nat} {V : Nat → Value} {L : Nat → List Hs} {S : Nat → Prop} (h : LsAt w B v gl V L) (hg : Grown w w' S) (h1 : ¬ S gl) (h2 : ∀ i, i < 6 → ∀ k, (V i).ownBlock = some k → ¬ S k) : LsAt w' B v gl V L :=
 ⟨h.eq, fun i hi => cell_grown (h.cell i hi) hg h1, hg.typ h.typ h1, h.lo, fun i hi => (h.own i hi).grown hg (h2 i hi), h.new⟩
theorem LsAt.below {w w' : World} {B : Nat} {v : Value} {gl : Nat} {V : Nat → Value} {L : Nat → List Hs} (h : LsAt w B v gl V L) (hb : Below w.heap.size w w') : LsAt w' B v gl V L :=
 h.grown (Grown.below (S := fun _ => False) hb) (fun e => e) fun _ _ _ _ e => e
theorem LsAt.lt {w : World} {B : Nat} {v : Value} {gl : Nat} {V : Nat → Value} {L : Nat → List Hs} (h : LsAt w B v gl V L) : gl < w.heap.size ∧ ∀ i, i < 6 → ∀ k, (V i).ownBlock = some k → k < w.heap.size := ⟨h.typ.lt, fun i hi => (h.own i hi).lt⟩
theorem LsAt.ne {w : World} {B : Nat} {v : Value} {gl : Nat} {V : Nat → Value} {L : Nat → List Hs} (h : LsAt w B v gl V L) : ∀ i, i < 6 → ∀ k, (V i).ownBlock = some k → gl ≠ k := fun i hi k hk e => by
 have := ((h.own i hi).typ hk).one (e ▸ h.typ); revert this; decide
/-! ### A list that is written over. -/
/-- The slice v owns so many hashes' cells, whatever they hold. -/
def OwnX (w : World) (v : Value) (n : Nat) : Prop := ∃ xs, w.ownsRow 0 36 32 v n xs
theorem OwnH.x {w : World} {v : Value} {l : List Hs} (h : OwnH w v l) : OwnX w v l.length := ⟨_, h⟩
theorem OwnX.sl {w : World} {v : Value} {n : Nat} (h : OwnX w v n) : ∃ a c, v = .slice a n c := by
 obtain ⟨xs, _, h⟩ := h
 rcases h with ⟨rfl, rfl⟩ | ⟨g, cap, cur, rfl, _⟩
 ·exact ⟨none, 0, rfl⟩
 ·exact ⟨_, cap, rfl⟩
theorem OwnX.at {w : World} {a : Option Addr} {n m c : Nat} (h : OwnX w (.slice a m c) n) (h0 : 0 < n) : ∃ g cur, a = some ⟨g, 0, none⟩ ∧ m = n ∧ Blk w g 36 cur ∧ n ≤ c ∧ c ≤ maxLen ∧ cur.size = c * 32 := by
 obtain ⟨xs, _, h⟩ := h
 rcases h with ⟨_, h1⟩ | ⟨g, cap, cur, e, h1, h2, h3, h4, h5, h6⟩
 ·omega
 ·injection e with e1 e2 e3
  subst e1 e3
  exact ⟨g, cur, rfl, e2, h2, h3, h4, h5⟩
end Go.Proofs.Ytogmdfhicbmplaa
namespace Go.Proofs.Ytogmdfhicbmplaa
open Go.RowKit
set_option linter.unusedSimpArgs false
set_option linter.unusedVariables false

theorem Try.in35 (w : World) (vs : Array Value) : (callFunc 35 vs).run Try.prog w = .ok (.enter 35 vs) w := by kernel_rfl
set_option maxRecDepth 8000 in
set_option maxHeartbeats 1000000 in
theorem next_first (d : Nat) (v : VX) (r : List Hs) (Av : Nat → Prop) (g : DG) (w : World) (hD : DagAt w Av d g) (hQ : g.queue = v.id :: r) (hF : g.wait.find? (isV v.id) = some v) (hA : v.ps.all (hasB g.held) = true) (hL : v.ps.length ≤ 4398046511104) : Calls Try.prog 35 #[ptr d] w fun e w' => ∃ a n c, e = .returned (.tuple #[.agg (vtx v.id.f v.ck (.slice a n c)), .bool true]) ∧ Below w.heap.size w w' := by
 have HD := Keep.mk hD
 have HQ := Keep.mk hQ
 have HF := Keep.mk hF
 have HA := Keep.mk hA
 have HL := Keep.mk hL
 clear hD hQ hF hA hL
 go_enter Try.func35, Try.ntmps35
 refine wp_seq_k fun K1 hK1 => rgn ?_
 refine WL.new (by kernel_rfl) 39 rfl _ Try.new39 ?_
 obtain ⟨vz, hvz⟩ : ∃ a : Array Value, Keep (a = vtx (fun _ => 0) 0 (.slice none 0 0)) := ⟨_, ⟨rfl⟩⟩
 rw [← hvz.out]
 have HZ1 := Keep.mk (Blk.new w 39 vz)
 have LB1 := Keep.mk (below_new w (.cells vz 39))
 generalize w.alloc (.cells vz 39) = w1 at *
 have HD1 := Keep.mk (HD.out.below LB1.out)
 obtain ⟨qa, qc, hqv⟩ := HD1.out.oq.sl
 have hql : 0 < g.queue.length := by rw [HQ.out]; simp
 have hql' : (0 : Int) < (g.queue.length : Int) := by omega
 have hrw : HRow w1 (.slice qa g.queue.length qc) g.queue := hqv ▸ HD1.out.oq.row
 obtain ⟨gp, op, hpa, _, _, hrg⟩ := hrw.at hql
 subst hpa
 have hel := rangeAt_elem hrg 0 hql
 rw [Nat.zero_mul, Nat.add_zero] at hel
 obtain ⟨hh, hhh⟩ : ∃ hh, hh = g.queue[0] := ⟨_, rfl⟩
 rw [← hhh] at hel
 have hhx : hh = v.id := by rw [hhh]; simp [HQ.out]
 subst hhx
 have c5 : w1.cell? ⟨d, 5, none⟩ = some (.slice (some ⟨gp, op, none⟩) g.queue.length qc) := by have h := HD1.out.blk.c 5 (by rfl : (dgA g)[5]? = some g.qv); rw [hqv] at h; exact h
 have Hel := Keep.mk hel
 clear hel hrg hrw hhh
 simp only [Act.put, pqA, pqB, pqC]
 refine VlS (.bool false) ?_
 refine WL.nil (hK1 _ _ ?_)
 refine wp_seq_k fun K2 hK2 => ?_
 refine wp_seq_k fun K3 hK3 => rgn ?_
 refine VlS (.pointer (some ⟨d, 0, none⟩)) ?_
 refine VlS (.pointer (some ⟨d, 0, none⟩)) ?_
 refine VlS (.pointer (some ⟨d, 5, none⟩)) ?_
 refine VlS (.slice (some ⟨gp, op, none⟩) g.queue.length qc) ?_
 refine VlS (.int .i64 (g.queue.length : Int)) ?_
 refine VlS (.int .i64 0) ?_
 refine WL.nil (hK3 _ _ ?_)
 refine wp_block ?_
 refine wp_loop (fun ac wr => ∃ (t : Nat) (u3 u5 u6 u13 u14 u15 u16 u17 u18 u19 u20 u21 u22 u23 u24 u25 u26 u27 u28 : Value), ac = { tmps := #[.pointer (some ⟨d, 0, none⟩), undef, .pointer (some ⟨w.heap.size, 0, none⟩), u3, undef, u5, u6, .pointer (some ⟨d, 0, none⟩), .pointer (some ⟨d, 0, none⟩), .pointer (some ⟨d, 5, none⟩), .slice (some ⟨gp, op, none⟩) g.queue.length qc, .int .i64 (g.queue.length : Int), .int .i64 0, u13, u14, u15, u16, u17, u18, u19, u20, u21, u22, u23, u24, u25, u26, u27, u28, undef], defers := [] } ∧ w1 = wr) (fun a _ => 0) ⟨0, .bool false, undef, undef, undef, undef, undef, undef, undef, undef, undef, undef, undef, undef, undef, undef, undef, undef, undef, undef, rfl, rfl⟩ ?_
 rintro ac wr ⟨t, u3, u5, u6, u13, u14, u15, u16, u17, u18, u19, u20, u21, u22, u23, u24, u25, u26, u27, u28, rfl, hW⟩
 obtain rfl := hW
 refine wp_seq_k fun K4 hK4 => rgn ?_
 refine VlS (.bool true) ?_
 refine WL.nil (hK4 _ _ ?_)
 refine wp_seq_k fun K5 hK5 => ?_
 refine wp_cond_true rfl ?_
 refine wp_skip ?_
 refine hK5 _ _ ?_
 refine wp_seq_k fun K6 hK6 => ?_
 refine wp_block ?_
 refine wp_seq_k fun K7 hK7 => rgn ?_
 refine VlS (.pointer (some ⟨gp, op, none⟩)) ?_
 refine WL.mid (by kernel_rfl) 36 (.tmp 14) rfl gp op rfl (encH v.id) _ Hel.out Try.underlying36 rfl (Try.size36L v.id) ?_
 rw [enc_load]
 simp only [Act.put, pqA, pqB, pqC]
 refine WL.new (by kernel_rfl) 36 rfl _ Try.new36 ?_
 simp only [Act.put, pqA, pqB, pqC]
 refine WL.storeR (by kernel_rfl) 36 (.tmp 5) (.tmp 15) rfl w1.heap.size (bytesA 32 v.id.f) rfl rfl 36 (bytesA 32 fun _ => 0) (Blk.new w1 36 _) (Try.size36B _) (bytesA_sizes _ _ _) (bytesA_one _ _) ?_
 have HX2 := Keep.mk ((Blk.new w1 36 (bytesA 32 fun _ => 0)).setRow (bytesA 32 v.id.f))
 have B2 : Keep (Below w1.heap.size w1 ((w1.alloc (.cells (bytesA 32 fun _ => 0) 36)).setRow w1.heap.size (bytesA 32 v.id.f))) := ⟨below_setRow (below_new w1 _) (Nat.le_refl _) _⟩
 generalize (w1.alloc (.cells (bytesA 32 fun _ => 0) 36)).setRow w1.heap.size (bytesA 32 v.id.f) = w2 at *
 have HD2 := Keep.mk (HD1.out.below B2.out)
 have HZ2 := Keep.mk (HZ1.out.below B2.out HZ1.out.lt)
 have LB2 := Keep.mk (belowT LB1.out B2.out)
 generalize w1.heap.size = bb at *
 clear Hel c5 HD1 HZ1
 simp only [Act.put]
 refine WL.nil (hK7 _ _ ?_)
 refine wp_seq_k fun K8 hK8 => ?_
 obtain ⟨es, ck, c0, k0, pa, pn, pm, hes, hl1, hl2, hcs⟩ := look1 HD2.out.wait v.id
 obtain ⟨vv, hvv⟩ : ∃ a : Array Value, Keep (a = vtx c0 k0 (.slice pa pn pm)) := ⟨_, ⟨rfl⟩⟩
 rw [← hvv.out] at hl2
 have H1 := Keep.mk hl2
 have HC : Keep (c0 = v.id.f ∧ k0 = v.ck ∧ HRow w2 (.slice pa pn pm) v.ps) := ⟨hcs.elim (fun h => absurd (HF.out.symm.trans h.1) (by simp)) fun ⟨v', h, h2, h3, h4, _⟩ => by cases Option.some.inj (HF.out.symm.trans h); exact ⟨h2, h3, h4⟩⟩
 have hSB : Keep (∀ wx, Below w2.heap.size w2 wx → (fun wx => wx.cell? ⟨d, 4, none⟩ = some (.map (some g.wb)) ∧ wx.rangeAt bb 0 (bytesA 32 v.id.f).toList ∧ wx.heap[g.wb]? = some (.map es ck)) wx) := ⟨fun wx hb => ⟨(HD2.out.blk.below hb HD2.out.blk.lt).c 4 rfl, blk_rng (HX2.out.below hb HX2.out.lt), by rw [hb.block _ (Array.getElem?_eq_some_iff.1 hes).1]; exact hes⟩⟩
 have B3 : Keep (Below w2.heap.size w2 w2.drew) := ⟨(Below.refl _ _).drew⟩
 clear hl1 hl2 hcs hes
 refine wp_region_held_drew (S := fun wx => wx.cell? ⟨d, 4, none⟩ = some (.map (some g.wb)) ∧ wx.rangeAt bb 0 (bytesA 32 v.id.f).toList ∧ wx.heap[g.wb]? = some (.map es ck)) (by kernel_rfl) (hSB.out _ B3.out) (fun hHeld => ?_)
 refine tkS (i := 0) (oi := ⟨some 16, Op.move (Operand.tmp 0), 27, _, _, none⟩) (v := .pointer (some ⟨d, 0, none⟩)) rfl (Or.inl ⟨by rfl, fun w hS => by obtain ⟨hS1, hS2, hS3⟩ := hS; go_simp⟩) hHeld ?_
 refine tkS (i := 1) (oi := ⟨some 17, Op.nilCheck (Operand.tmp 16), 0, _, _, none⟩) (v := .pointer (some ⟨d, 0, none⟩)) rfl (Or.inl ⟨by rfl, fun w hS => by obtain ⟨hS1, hS2, hS3⟩ := hS; go_simp⟩) hHeld ?_
 refine tkS (i := 2) (oi := ⟨some 18, Op.fieldAddr 77 (Operand.tmp 17) 4, 0, _, _, none⟩) (v := .pointer (some ⟨d, 4, none⟩)) rfl (Or.inl ⟨by rfl, fun w hS => by obtain ⟨hS1, hS2, hS3⟩ := hS; go_simp⟩) hHeld ?_
 refine tkS (i := 3) (oi := ⟨some 19, Op.load 75 (Operand.tmp 18), 75, _, _, none⟩) (v := .map (some g.wb)) rfl (Or.inl ⟨by rfl, fun w hS => by obtain ⟨hS1, hS2, hS3⟩ := hS; go_simp⟩) hHeld ?_
 refine tkS (i := 4) (oi := ⟨some 20, Op.load 36 (Operand.tmp 5), 36, _, _, none⟩) (v := .agg (bytesA 32 v.id.f)) rfl (yieldsIf_ld (by rfl) (Operand.tmp 5) 36 rfl bb 0 rfl (bytesA 32 v.id.f) _ Try.underlying36 rfl (size36A _) fun w hS => hS.2.1) hHeld ?_
 refine tkS (i := 5) (oi := ⟨some 21, Op.lookup 75 (Operand.tmp 19) (Operand.tmp 20) false, 39, _, _, none⟩) (v := .agg vv) rfl (yieldsIf_look (by rfl) (Operand.tmp 19) (Operand.tmp 20) false rfl g.wb v.id.f rfl rfl _ fun wx hS => H1.out wx hS.2.2) hHeld ?_
 refine wpAnyH_ready (rs := [6]) (by kernel_rfl) (by simp) ?_
 refine AllReadyH.cons (o := ⟨some 6, Op.alloc 39, 0, _, _, none⟩) rfl (fun K hK => ?_) AllReadyH.nil
 rw [if_pos (by rfl)]
 refine wp_newA 39 rfl vz (by rw [hvz.out]; exact Try.new39) ?_
 have B4 := Keep.mk (B3.out.alloc (Nat.le_refl _) (.cells vz 39))
 obtain ⟨w4, hw4⟩ : ∃ wx, Keep (wx = w2.drew.alloc (.cells vz 39)) := ⟨_, ⟨rfl⟩⟩
 rw [← hw4.out]
 have HB4 : Keep (Blk w4 w2.drew.heap.size 39 vz) := ⟨by rw [hw4.out]; exact Blk.new _ _ _⟩
 have B4 : Keep (Below w2.heap.size w2 w4) := ⟨by rw [hw4.out]; exact B4.out⟩
 have hL4 : Keep (w2.heap.size ≤ w2.drew.heap.size) := ⟨Nat.le_refl _⟩
 clear hw4
 generalize w2.drew.heap.size = n1 at *
 refine hK _ _ (hSB.out _ B4.out) fun hH1 => ?_
 clear hK
 simp only [Act.put, pqA, pqB, pqC]
 refine wpAnyH_ready (rs := [7]) (by kernel_rfl) (by simp) ?_
 refine AllReadyH.cons (o := ⟨none, Op.store 39 (Operand.tmp 6) (Operand.tmp 21), 0, _, _, none⟩) rfl (fun K hK => ?_) AllReadyH.nil
 rw [if_pos (by rfl)]
 refine wp_store_row 39 (Operand.tmp 6) (Operand.tmp 21) rfl n1 vv rfl rfl 39 vz HB4.out (by rw [hvv.out]; exact Try.info39s _ _ _) (by rw [hvv.out, hvz.out, vtx_size, vtx_size]) (by rw [hvv.out]; exact vtx_one _ _ _ (slice_one _ _ _)) ?_
 have B5 := Keep.mk (below_setRow B4.out hL4.out vv)
 have HX5 := Keep.mk (HB4.out.setRow vv)
 refine hK _ _ (hSB.out _ B5.out) fun hH2 => ?_
 generalize w4.setRow n1 vv = w5 at *
 have HD5 := Keep.mk (HD2.out.below B5.out)
 have HZ5 := Keep.mk (HZ2.out.below B5.out HZ2.out.lt)
 have LB5 := Keep.mk (belowT LB2.out B5.out)
 have HR5 := Keep.mk (HC.out.2.2.below B5.out)
 obtain ⟨_, pm', hpf⟩ := HR5.out.form
 injection hpf with _ hpn _
 subst hpn
 have c33 : w5.cell? ⟨n1, 33, none⟩ = some (.slice pa v.ps.length pm) := HX5.out.c 33 (by rw [hvv.out]; exact vtx_ps _ _ _)
 clear hK hH1 HB4 B4 B3 hSB
 simp only [Act.put, pqA, pqB, pqC]
 refine wpAnyH_done (by kernel_rfl) ?_ _
 refine hK8 _ _ ?_
 refine wp_seq_k fun K9 hK9 => rgn ?_
 refine VlS (.pointer (some ⟨d, 0, none⟩)) ?_
 refine VlS (.pointer (some ⟨n1, 33, none⟩)) ?_
 refine VlS (.slice pa v.ps.length pm) ?_
 clear c33
 have hal := hasAll_any d _ v.ps Av g w5 HD5.out HR5.out (by have := HL.out; omega)
 rw [HA.out] at hal
 refine WL.callF (by kernel_rfl) 68 _ _ rfl Try.in68 #[ptr d, .slice pa v.ps.length pm] (by simp [Act.eval]) ?_
 refine (hal).mono ?_
 rintro e w6 ⟨rfl, hz⟩
 refine ⟨_, rfl, ?_⟩
 clear hal
 have HX6 := Keep.mk (HX5.out.below hz HX5.out.lt)
 have HZ6 := Keep.mk (HZ5.out.below hz HZ5.out.lt)
 have LB6 := Keep.mk (belowT LB5.out hz)
 have HR6 := Keep.mk (HR5.out.below hz)
 clear hz
 simp only [Act.put, pqA, pqB, pqC]
 refine WL.nil (hK9 _ _ ?_)
 refine wp_cond_true rfl ?_
 refine wp_seq_k fun K10 hK10 => rgn ?_
 refine WL.row (by kernel_rfl) 39 (.tmp 6) rfl n1 rfl 39 vv _ HX6.out Try.underlying39 rfl (by rw [hvv.out]; exact Try.info39s _ _ _) ?_
 simp only [Act.put, pqA, pqB, pqC]
 have how := own_any v _ w6 HR6.out (by have := HL.out; omega)
 rw [← HC.out.1, ← HC.out.2.1, ← hvv.out] at how
 refine WL.callF (by kernel_rfl) 59 _ _ rfl Try.in59 #[.agg vv] (by simp [Act.eval]) ?_
 refine (how).mono ?_
 rintro e w7 ⟨p7, rfl, hf⟩
 refine ⟨_, rfl, ?_⟩
 clear how
 have HF7 := Keep.mk hf
 have HZ7 := Keep.mk (HZ6.out.below hf.bel HZ6.out.lt)
 have LB7 := Keep.mk (belowT LB6.out hf.bel)
 obtain ⟨pa7, pc7, hp7⟩ := hf.own.sl
 have HP7 := Keep.mk hp7
 obtain ⟨vq, hvq⟩ : ∃ a : Array Value, Keep (a = vtx c0 k0 p7) := ⟨_, ⟨rfl⟩⟩
 have HI7 : Keep ((Try.prog.info? 39).map (·.size) = some vq.size) := ⟨by rw [hvq.out]; exact Try.info39s _ _ _⟩
 have HO7 : Keep (vq.all (·.oneCell') = true) := ⟨by rw [hvq.out, hp7]; exact vtx_one _ _ _ (slice_one _ _ _)⟩
 have HS7 : Keep (vz.size = vq.size) := ⟨by rw [hvq.out, hvz.out, vtx_size, vtx_size]⟩
 rw [← hvq.out]
 clear hf hp7 HX6 HR6
 simp only [Act.put, pqA, pqB, pqC]
 refine WL.storeR (by kernel_rfl) 39 (.tmp 2) (.tmp 27) rfl w.heap.size vq rfl rfl 39 vz HZ7.out HI7.out HS7.out HO7.out ?_
 have HZ8 := Keep.mk (HZ7.out.setRow vq)
 have LB8 := Keep.mk (below_setRow LB7.out (b := w.heap.size) (Nat.le_refl _) vq)
 generalize w7.setRow w.heap.size vq = w8 at *
 simp only [Act.put]
 refine VlS (.bool true) ?_
 refine WL.nil (hK10 _ _ ?_)
 refine wp_ret ?_
 try simp only [Exit.inBlock, Exit.then]
 refine bodyPost_ret (v := .tuple #[.agg vq, .bool true]) (results_cell_row2 Try.results35 _ _ w.heap.size 39 _ (0, 0) _ _ rfl rfl HZ8.out Try.underlying39 rfl HI7.out) rfl ?_
 exact ⟨pa7, _, pc7, by rw [hvq.out, HC.out.1, HC.out.2.1, HP7.out], LB8.out⟩
end Go.Proofs.Ytogmdfhicbmplaa
namespace Go.Proofs.Ytogmdfhicbmplaa
open Go.RowKit
set_option linter.unusedSimpArgs false
set_option linter.unusedVariables false

theorem OwnX.below {w w' : World} {v : Value} {n : Nat} (h : OwnX w v n) (hb : Below w.heap.size w w') : OwnX w' v n := by
 obtain ⟨xs, h⟩ := h
 exact ⟨xs, ownsH_below h hb⟩
end Go.Proofs.Ytogmdfhicbmplaa
namespace Go.Proofs.Ytogmdfhicbmplaa
open Go.RowKit
set_option linter.unusedSimpArgs false
set_option linter.unusedVariables false

end Go.Proofs.Ytogmdfhicbmplaa
namespace Go.Proofs.Ytogmdfhicbmplaa
open Go.RowKit
set_option linter.unusedSimpArgs false
set_option linter.unusedVariables false

theorem six {P : Nat → Prop} (h0 : P 0) (h1 : P 1) (h2 : P 2) (h3 : P 3) (h4 : P 4) (h5 : P 5) : ∀ i, i < 6 → P i
 | 0, _ => h0
 | 1, _ => h1
 | 2, _ => h2
 | 3, _ => h3
 | 4, _ => h4
 | 5, _ => h5
 | n + 6, h => absurd h (by omega)
end Go.Proofs.Ytogmdfhicbmplaa
