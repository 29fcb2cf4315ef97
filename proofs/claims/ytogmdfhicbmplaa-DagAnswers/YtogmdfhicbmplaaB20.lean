import Derived.Test.YtogmdfhicbmplaaB19
import Derived.Test.YtogmdfhicbmplaaB18
import Derived.Laws.BitsAllLaws
namespace Go.Proofs.Ytogmdfhicbmplaa
open Go.RowKit
set_option linter.unusedSimpArgs false
set_option linter.unusedVariables false

theorem inc_pwI {l : List Hs} (h : Inc l) : l.Pairwise Lt := List.pairwise_iff_getElem.2 fun i j hi hj hij => by
 have := h i j hij hj
 rwa [List.getD_eq_getElem?_getD, List.getD_eq_getElem?_getD, List.getElem?_eq_getElem hi, List.getElem?_eq_getElem hj] at this
def fgtR (R : RG) (x : Hs) (R' : RG) : Prop := (hasB R.ws x = false ∧ R' = R) ∨ ∃ m : Nat, hasB R.ws x = true ∧ ixF x (R.wait.map fun q => q.1.id) 0 = (m : Int) ∧ R' = ⟨R.room, R.held, R.wait.take m ++ R.wait.drop (m + 1), R.sets⟩
theorem Sm.fgtQ {g g' : DG} {R R' : RG} {x : Hs} (h : Sm g R) (hI : DI g') (hR : RI R) (a : fgtG g x g') (b : fgtR R x R') : Sm g' R' ∧ RI R' := by
 rcases b with ⟨b1, rfl⟩ | ⟨m, b1, b2, rfl⟩
 ·rcases a with ⟨_, rfl⟩ | ⟨a1, _⟩
  ·exact ⟨h, hR⟩
  ·rw [← h.ws, b1] at a1; cases a1
 ·have s := h.fgt a b1 b2
  exact ⟨s, s.ri' hI (inc_pwI hR.inc) hR.mem⟩
def erP (l : List VX) (x : Hs) : Int := if (l.find? (isV x)).isSome = true then 0 else 6
theorem par_of {l : List VX} {x : Hs} {w w' : World} {e : Ending} (h : (l.find? (isV x) = none ∧ e = .returned (.tuple #[.slice none 0 0, .int .i64 6]) ∧ Below w.heap.size w w') ∨ ∃ v, l.find? (isV x) = some v ∧ ∃ v', e = .returned (.tuple #[v', .int .i64 0]) ∧ Fresh w w' v' v.ps) : ∃ v', e = .returned (.tuple #[v', .int .i64 (erP l x)]) ∧ Fresh w w' v' (parH l x) := by
 rcases h with ⟨h1, h2, h3⟩ | ⟨v, h1, v', h2, h3⟩
 ·refine ⟨.slice none 0 0, by rw [h2, erP, h1]; rfl, ?_⟩
  rw [parH, h1]
  exact ⟨ownH_nil _, (fun k hk => by cases hk), h3⟩
 ·refine ⟨v', by rw [h2, erP, h1]; rfl, ?_⟩
  rw [parH, h1]
  exact h3
set_option maxRecDepth 8000 in
set_option maxHeartbeats 4000000 in
theorem an_has (B : Nat) (Ps : List PQ) (i : Nat) (p : PQ) (o : OP) (w : World) (hA : AQ B w Ps) (hi : Ps[i]? = some p) (hB : B ≤ w.heap.size) (hr : HRow w o.q.2 o.q.1.ps) (hL : (o.q.1.ps.length : Int) ≤ 9223372036854775806) (hK' : o.q.1.ps ≠ [] → ∀ k, o.q.2.ownBlock = some k → k < B) (hk : o.k = 7) : Calls Try.prog 13 #[ptr p.d, ptr p.x, .agg (opA o)] w (AnP B Ps i p w) := by
 obtain ⟨d, x, g, hv, wv, sv, R⟩ := p
 have hp : (⟨d, x, g, hv, wv, sv, R⟩ : PQ) ∈ Ps := List.mem_iff_getElem?.2 ⟨i, hi⟩
 have DG : Keep (DagAt w (UQ Ps) d g) := ⟨hA.1.dg _ hp⟩
 have RA_ : Keep (RAt w x hv wv sv R) := ⟨hA.1.rg _ hp⟩
 have RD : Keep (RRd w x R) := ⟨RA_.out.rd⟩
 have HI : Keep (DI g) := ⟨(hA.2 _ hp).1⟩
 have RI_ : Keep (RI R) := ⟨(hA.2 _ hp).2.1⟩
 have SM : Keep (Sm g R) := ⟨(hA.2 _ hp).2.2⟩
 have HAq := Keep.mk hA
 have HRq := Keep.mk hr
 have HLq := Keep.mk hL
 have HKq := Keep.mk hK'
 clear hA hr hL hK'
 obtain ⟨oo, HOo⟩ : ∃ a : Array Value, Keep (a = opA o) := ⟨_, ⟨rfl⟩⟩
 obtain ⟨vv, hvv⟩ : ∃ a : Array Value, Keep (a = vtx o.q.1.id.f o.q.1.ck o.q.2) := ⟨_, ⟨rfl⟩⟩
 rw [← HOo.out]
 show Calls Try.prog 13 #[ptr d, ptr x, .agg oo] w _
 have hk := Keep.mk hk
 obtain ⟨b1, hb1⟩ : ∃ a, Keep (hasB g.held o.h = a) := ⟨_, ⟨rfl⟩⟩
 obtain ⟨b2, hb2⟩ : ∃ a, Keep (hasB g.wait o.h = a) := ⟨_, ⟨rfl⟩⟩
 go_enter Try.func13, Try.ntmps13
 refine wp_seq_k fun K1 hK1 => rgn ?_
 refine WL.box (by kernel_rfl) 41 (.tmp 2) rfl (oo) rfl ?_
 obtain ⟨w1, hwn⟩ : ∃ wx, Keep (wx = w.alloc (.cells (oo) 41)) := ⟨_, ⟨rfl⟩⟩
 rw [← hwn.out]
 have HX1 : Keep (Blk w1 w.heap.size 41 (oo)) := ⟨by rw [hwn.out]; exact Blk.new _ _ _⟩
 have U1 : Keep (Below w.heap.size w w1) := ⟨by rw [hwn.out]; exact below_new _ _⟩
 clear hwn
 have HRo : Keep (∀ wx, Below w1.heap.size w1 wx → wx.rangeAt w.heap.size 0 (opA o).toList) := ⟨fun wx hb => by have h := blk_rng (HX1.out.below hb HX1.out.lt); rw [HOo.out] at h; exact h⟩
 have HRh : Keep (∀ wx, Below w1.heap.size w1 wx → wx.rangeAt w.heap.size 36 (encH o.h)) := ⟨fun wx hb => opA_h (HRo.out wx hb)⟩
 have HRv : Keep (∀ wx, Below w1.heap.size w1 wx → wx.rangeAt w.heap.size 2 vv.toList) := ⟨fun wx hb => by rw [hvv.out]; exact opA_v (HRo.out wx hb)⟩
 have V1 : Keep (Below w1.heap.size w1 w1) := ⟨Below.refl _ _⟩
 simp only [Act.put, pqA, pqB, pqC]
 refine VlS (.bool false) ?_
 refine WL.nil (hK1 _ _ ?_)
 refine wp_seq_k fun K2 hK2 => ?_
 refine wp_seq_k fun K3 hK3 => rgn ?_
 refine VlS (.pointer (some ⟨w.heap.size, 0, none⟩)) ?_
 have ck0 : w1.cell? ⟨w.heap.size, 0, none⟩ = some (.int .i64 (7)) := by have h := opA_k (HRo.out w1 V1.out); rw [hk.out] at h; exact h
 refine WL.val (by kernel_rfl) (.int .i64 (7)) (by go_simp) ?_
 clear ck0
 simp only [Act.put, pqA, pqB, pqC]
 refine WL.nil (hK3 _ _ ?_)
 refine wp_block ?_
 refine wp_seq_k fun K4 hK4 => rgn ?_
 refine VlS (.bool false) ?_
 refine VlS (.bool false) ?_
 refine WL.nil (hK4 _ _ ?_)
 refine wp_cond_false rfl ?_
 refine wp_seq_k fun K5 hK5 => rgn ?_
 refine VlS (.bool false) ?_
 refine VlS (.bool false) ?_
 refine WL.nil (hK5 _ _ ?_)
 refine wp_cond_false rfl ?_
 refine wp_seq_k fun K6 hK6 => rgn ?_
 refine VlS (.bool false) ?_
 refine VlS (.bool false) ?_
 refine WL.nil (hK6 _ _ ?_)
 refine wp_cond_false rfl ?_
 refine wp_seq_k fun K7 hK7 => rgn ?_
 refine VlS (.bool false) ?_
 refine VlS (.bool false) ?_
 refine WL.nil (hK7 _ _ ?_)
 refine wp_cond_false rfl ?_
 refine wp_seq_k fun K8 hK8 => rgn ?_
 refine VlS (.bool false) ?_
 refine VlS (.bool false) ?_
 refine WL.nil (hK8 _ _ ?_)
 refine wp_cond_false rfl ?_
 refine wp_seq_k fun K9 hK9 => rgn ?_
 refine VlS (.bool false) ?_
 refine VlS (.bool false) ?_
 refine WL.nil (hK9 _ _ ?_)
 refine wp_cond_false rfl ?_
 refine wp_seq_k fun K10 hK10 => rgn ?_
 refine VlS (.bool true) ?_
 refine VlS (.bool true) ?_
 refine WL.nil (hK10 _ _ ?_)
 refine wp_cond_true rfl ?_
 refine wp_seq_k fun K11 hK11 => ?_
 have V1d : Keep (Below w1.heap.size w1 w1.drew) := ⟨(Below.refl _ _).drew⟩
 have U1d : Keep (Below w.heap.size w w1.drew) := ⟨belowT U1.out V1d.out⟩
 have hS0 : Keep (∀ wx, Below w1.heap.size w1 wx → wx.rangeAt w.heap.size 36 (encH o.h)) := ⟨HRh.out⟩
 refine wp_region_held_drew (S := fun wx : World => wx.rangeAt w.heap.size 36 (encH o.h)) (by kernel_rfl) (hS0.out _ V1d.out) (fun hHeld => ?_)
 refine tkS (i := 0) (oi := ⟨some 176, Op.move (Operand.tmp 0), 27, _, _, none⟩) (v := .pointer (some ⟨d, 0, none⟩)) rfl (Or.inl ⟨by rfl, fun w hS => by clear hS; go_simp⟩) hHeld ?_
 refine tkS (i := 1) (oi := ⟨some 177, Op.fieldAddr 41 (Operand.tmp 5) 3, 0, _, _, none⟩) (v := .pointer (some ⟨w.heap.size, 36, none⟩)) rfl (Or.inl ⟨by rfl, fun w hS => by clear hS; go_simp⟩) hHeld ?_
 refine tkS (i := 2) (oi := ⟨some 178, Op.load 36 (Operand.tmp 177), 36, _, _, none⟩) (v := .agg (bytesA 32 o.h.f)) rfl (yieldsIf_ldE (by rfl) (Operand.tmp 177) rfl w.heap.size 36 rfl o.h fun w hS => hS) hHeld ?_
 refine tkS (i := 4) (oi := ⟨some 180, Op.move (Operand.tmp 1), 31, _, _, none⟩) (v := .pointer (some ⟨x, 0, none⟩)) rfl (Or.inl ⟨by rfl, fun w hS => by clear hS; go_simp⟩) hHeld ?_
 refine tkS (i := 5) (oi := ⟨some 181, Op.fieldAddr 41 (Operand.tmp 5) 3, 0, _, _, none⟩) (v := .pointer (some ⟨w.heap.size, 36, none⟩)) rfl (Or.inl ⟨by rfl, fun w hS => by clear hS; go_simp⟩) hHeld ?_
 refine tkS (i := 6) (oi := ⟨some 182, Op.load 36 (Operand.tmp 181), 36, _, _, none⟩) (v := .agg (bytesA 32 o.h.f)) rfl (yieldsIf_ldE (by rfl) (Operand.tmp 181) rfl w.heap.size 36 rfl o.h fun w hS => hS) hHeld ?_
 refine wpAnyH_ready (rs := [3]) (by kernel_rfl) (by simp) ?_
 refine AllReadyH.cons (o := ⟨some 179, Op.call { callee := Callee.value (Operand.func 45), args := #[Operand.tmp 176, Operand.tmp 178], argTypes := #[27, 36] }, 4, _, _, none⟩) rfl (fun K hK => ?_) AllReadyH.nil
 rw [if_pos (by rfl)]
 have hcon := has_any d o.h _ g w1.drew (DG.out.below U1d.out)
 rw [show (g.held.find? (isV o.h)).isSome = b1 from hb1.out] at hcon
 refine wp_callF 45 _ _ rfl Try.in45 #[ptr d, .agg (bytesA 32 o.h.f)] (by simp [Act.eval]) (fun u wx => u = .bool b1 ∧ Below w1.drew.heap.size w1.drew wx) (hcon.mono fun e w' ⟨h1, h2⟩ => ⟨_, h1, rfl, h2⟩) ?_
 clear hcon
 rintro _ w2 ⟨rfl, hz⟩
 have V2 := Keep.mk (belowT V1d.out hz)
 have U2 := Keep.mk (belowT U1d.out hz)
 clear hz
 refine hK _ _ (hS0.out _ V2.out) fun hH2 => ?_
 clear hK
 simp only [Act.put, pqA, pqB, pqC]
 refine wpAnyH_ready (rs := [7]) (by kernel_rfl) (by simp) ?_
 refine AllReadyH.cons (o := ⟨some 183, Op.call { callee := Callee.value (Operand.func 46), args := #[Operand.tmp 180, Operand.tmp 182], argTypes := #[31, 36] }, 4, _, _, none⟩) rfl (fun K hK => ?_) AllReadyH.nil
 rw [if_pos (by rfl)]
 have hcon := rhas_any x o.h R w2 (RD.out.below U2.out) RI_.out
 rw [SM.out.hs, hb1.out] at hcon
 refine wp_callF 46 _ _ rfl Try.in46 #[ptr x, .agg (bytesA 32 o.h.f)] (by simp [Act.eval]) (fun u wx => u = .bool b1 ∧ Below w2.heap.size w2 wx) (hcon.mono fun e w' ⟨h1, h2⟩ => ⟨_, h1, rfl, h2⟩) ?_
 clear hcon
 rintro _ w3 ⟨rfl, hz⟩
 have V3 := Keep.mk (belowT V2.out hz)
 have U3 := Keep.mk (belowT U2.out hz)
 clear hz
 refine hK _ _ (hS0.out _ V3.out) fun hH3 => ?_
 clear hK
 simp only [Act.put, pqA, pqB, pqC]
 refine tkS (i := 8) (oi := ⟨some 184, Op.binOp BinOp.eql 4 (Operand.tmp 179) (Operand.tmp 183) 4, 4, _, _, none⟩) (v := .bool true) rfl (Or.inl ⟨by rfl, fun w hS => by clear hS; go_simp⟩) hH3 ?_
 refine tkS (i := 9) (oi := ⟨some 185, Op.move (Operand.tmp 184), 4, _, _, none⟩) (v := .bool true) rfl (Or.inl ⟨by rfl, fun w hS => by clear hS; go_simp⟩) hH3 ?_
 refine tkS (i := 10) (oi := ⟨some 186, Op.move (Operand.tmp 0), 27, _, _, some (9, true)⟩) (v := .pointer (some ⟨d, 0, none⟩)) rfl (Or.inl ⟨by rfl, fun w hS => by clear hS; go_simp⟩) hH3 ?_
 refine tkS (i := 11) (oi := ⟨some 187, Op.fieldAddr 41 (Operand.tmp 5) 3, 0, _, _, some (9, true)⟩) (v := .pointer (some ⟨w.heap.size, 36, none⟩)) rfl (Or.inl ⟨by rfl, fun w hS => by clear hS; go_simp⟩) hH3 ?_
 refine tkS (i := 12) (oi := ⟨some 188, Op.load 36 (Operand.tmp 187), 36, _, _, some (9, true)⟩) (v := .agg (bytesA 32 o.h.f)) rfl (yieldsIf_ldE (by rfl) (Operand.tmp 187) rfl w.heap.size 36 rfl o.h fun w hS => hS) hH3 ?_
 refine tkS (i := 14) (oi := ⟨some 190, Op.move (Operand.tmp 1), 31, _, _, some (9, true)⟩) (v := .pointer (some ⟨x, 0, none⟩)) rfl (Or.inl ⟨by rfl, fun w hS => by clear hS; go_simp⟩) hH3 ?_
 refine tkS (i := 15) (oi := ⟨some 191, Op.fieldAddr 41 (Operand.tmp 5) 3, 0, _, _, some (9, true)⟩) (v := .pointer (some ⟨w.heap.size, 36, none⟩)) rfl (Or.inl ⟨by rfl, fun w hS => by clear hS; go_simp⟩) hH3 ?_
 refine tkS (i := 16) (oi := ⟨some 192, Op.load 36 (Operand.tmp 191), 36, _, _, some (9, true)⟩) (v := .agg (bytesA 32 o.h.f)) rfl (yieldsIf_ldE (by rfl) (Operand.tmp 191) rfl w.heap.size 36 rfl o.h fun w hS => hS) hH3 ?_
 refine wpAnyH_ready (rs := [13]) (by kernel_rfl) (by simp) ?_
 refine AllReadyH.cons (o := ⟨some 189, Op.call { callee := Callee.value (Operand.func 47), args := #[Operand.tmp 186, Operand.tmp 188], argTypes := #[27, 36] }, 4, _, _, some (9, true)⟩) rfl (fun K hK => ?_) AllReadyH.nil
 rw [if_pos (by rfl)]
 have hcon := waits_any d o.h _ g w3 (DG.out.below U3.out)
 rw [show (g.wait.find? (isV o.h)).isSome = b2 from hb2.out] at hcon
 refine wp_callF 47 _ _ rfl Try.in47 #[ptr d, .agg (bytesA 32 o.h.f)] (by simp [Act.eval]) (fun u wx => u = .bool b2 ∧ Below w3.heap.size w3 wx) (hcon.mono fun e w' ⟨h1, h2⟩ => ⟨_, h1, rfl, h2⟩) ?_
 clear hcon
 rintro _ w4 ⟨rfl, hz⟩
 have V4 := Keep.mk (belowT V3.out hz)
 have U4 := Keep.mk (belowT U3.out hz)
 clear hz
 refine hK _ _ (hS0.out _ V4.out) fun hH4 => ?_
 clear hK
 simp only [Act.put, pqA, pqB, pqC]
 refine wpAnyH_ready (rs := [17]) (by kernel_rfl) (by simp) ?_
 refine AllReadyH.cons (o := ⟨some 193, Op.call { callee := Callee.value (Operand.func 48), args := #[Operand.tmp 190, Operand.tmp 192], argTypes := #[31, 36] }, 4, _, _, some (9, true)⟩) rfl (fun K hK => ?_) AllReadyH.nil
 rw [if_pos (by rfl)]
 have hcon := rwaits_any x o.h R w4 (RD.out.below U4.out) RI_.out
 rw [SM.out.ws, hb2.out] at hcon
 refine wp_callF 48 _ _ rfl Try.in48 #[ptr x, .agg (bytesA 32 o.h.f)] (by simp [Act.eval]) (fun u wx => u = .bool b2 ∧ Below w4.heap.size w4 wx) (hcon.mono fun e w' ⟨h1, h2⟩ => ⟨_, h1, rfl, h2⟩) ?_
 clear hcon
 rintro _ w5 ⟨rfl, hz⟩
 have V5 := Keep.mk (belowT V4.out hz)
 have U5 := Keep.mk (belowT U4.out hz)
 clear hz
 refine hK _ _ (hS0.out _ V5.out) fun hH5 => ?_
 clear hK
 simp only [Act.put, pqA, pqB, pqC]
 refine tkS (i := 18) (oi := ⟨some 194, Op.binOp BinOp.eql 4 (Operand.tmp 189) (Operand.tmp 193) 4, 4, _, _, some (9, true)⟩) (v := .bool true) rfl (Or.inl ⟨by rfl, fun w hS => by clear hS; go_simp⟩) hH5 ?_
 refine tkS (i := 19) (oi := ⟨some 195, Op.pick (Operand.tmp 185) (Operand.tmp 194) (Operand.const (Value.bool false)), 4, _, _, none⟩) (v := .bool true) rfl (Or.inl ⟨by rfl, fun w hS => by clear hS; go_simp⟩) hH5 ?_
 refine tkS (i := 20) (oi := ⟨some 6, Op.assign (Operand.tmp 195), 4, _, _, none⟩) (v := .bool true) rfl (Or.inl ⟨by rfl, fun w hS => by clear hS; go_simp⟩) hH5 ?_
 refine wpAnyH_done (by kernel_rfl) ?_ _
 refine hK11 _ _ ?_
 refine wp_ret ?_
 go_ret
 exact ⟨rfl, U5.out.mono hB, Grown.below U5.out, _, rfl, rfl, (HAq.out.below U5.out).self hi, uq_sub hi fun k hk => .inl hk⟩
set_option maxRecDepth 8000 in
set_option maxHeartbeats 4000000 in
theorem an_len (B : Nat) (Ps : List PQ) (i : Nat) (p : PQ) (o : OP) (w : World) (hA : AQ B w Ps) (hi : Ps[i]? = some p) (hB : B ≤ w.heap.size) (hr : HRow w o.q.2 o.q.1.ps) (hL : (o.q.1.ps.length : Int) ≤ 9223372036854775806) (hK' : o.q.1.ps ≠ [] → ∀ k, o.q.2.ownBlock = some k → k < B) (h1 : ¬ o.k = 1) (h2 : ¬ o.k = 2) (h3 : ¬ o.k = 3) (h4 : ¬ o.k = 4) (h5 : ¬ o.k = 5) (h6 : ¬ o.k = 6) (h7 : ¬ o.k = 7) (h8 : ¬ o.k = 8) (h9 : ¬ o.k = 9) (h10 : ¬ o.k = 10) (h11 : ¬ o.k = 11) (h12 : ¬ o.k = 12) (h13 : ¬ o.k = 13) : Calls Try.prog 13 #[ptr p.d, ptr p.x, .agg (opA o)] w (AnP B Ps i p w) := by
 obtain ⟨d, x, g, hv, wv, sv, R⟩ := p
 have hp : (⟨d, x, g, hv, wv, sv, R⟩ : PQ) ∈ Ps := List.mem_iff_getElem?.2 ⟨i, hi⟩
 have DG : Keep (DagAt w (UQ Ps) d g) := ⟨hA.1.dg _ hp⟩
 have RA_ : Keep (RAt w x hv wv sv R) := ⟨hA.1.rg _ hp⟩
 have RD : Keep (RRd w x R) := ⟨RA_.out.rd⟩
 have HI : Keep (DI g) := ⟨(hA.2 _ hp).1⟩
 have RI_ : Keep (RI R) := ⟨(hA.2 _ hp).2.1⟩
 have SM : Keep (Sm g R) := ⟨(hA.2 _ hp).2.2⟩
 have HAq := Keep.mk hA
 have HRq := Keep.mk hr
 have HLq := Keep.mk hL
 have HKq := Keep.mk hK'
 clear hA hr hL hK'
 obtain ⟨oo, HOo⟩ : ∃ a : Array Value, Keep (a = opA o) := ⟨_, ⟨rfl⟩⟩
 obtain ⟨vv, hvv⟩ : ∃ a : Array Value, Keep (a = vtx o.q.1.id.f o.q.1.ck o.q.2) := ⟨_, ⟨rfl⟩⟩
 rw [← HOo.out]
 show Calls Try.prog 13 #[ptr d, ptr x, .agg oo] w _
 have HLn : Keep ((g.held.length : Int) = (R.held.length : Int)) := ⟨by have := congrArg List.length SM.out.hs; rw [RG.hs, List.length_map] at this; omega⟩
 obtain ⟨hvx, wvx, svx, gx1, gx2, -, -⟩ := RD.out
 obtain ⟨ha, hc, rfl⟩ := gx2.form
 have GX := Keep.mk gx1
 clear gx1 gx2
 go_enter Try.func13, Try.ntmps13
 refine wp_seq_k fun K1 hK1 => rgn ?_
 refine WL.box (by kernel_rfl) 41 (.tmp 2) rfl (oo) rfl ?_
 obtain ⟨w1, hwn⟩ : ∃ wx, Keep (wx = w.alloc (.cells (oo) 41)) := ⟨_, ⟨rfl⟩⟩
 rw [← hwn.out]
 have HX1 : Keep (Blk w1 w.heap.size 41 (oo)) := ⟨by rw [hwn.out]; exact Blk.new _ _ _⟩
 have U1 : Keep (Below w.heap.size w w1) := ⟨by rw [hwn.out]; exact below_new _ _⟩
 clear hwn
 have HRo : Keep (∀ wx, Below w1.heap.size w1 wx → wx.rangeAt w.heap.size 0 (opA o).toList) := ⟨fun wx hb => by have h := blk_rng (HX1.out.below hb HX1.out.lt); rw [HOo.out] at h; exact h⟩
 have HRh : Keep (∀ wx, Below w1.heap.size w1 wx → wx.rangeAt w.heap.size 36 (encH o.h)) := ⟨fun wx hb => opA_h (HRo.out wx hb)⟩
 have HRv : Keep (∀ wx, Below w1.heap.size w1 wx → wx.rangeAt w.heap.size 2 vv.toList) := ⟨fun wx hb => by rw [hvv.out]; exact opA_v (HRo.out wx hb)⟩
 have V1 : Keep (Below w1.heap.size w1 w1) := ⟨Below.refl _ _⟩
 simp only [Act.put, pqA, pqB, pqC]
 refine VlS (.bool false) ?_
 refine WL.nil (hK1 _ _ ?_)
 refine wp_seq_k fun K2 hK2 => ?_
 refine wp_seq_k fun K3 hK3 => rgn ?_
 refine VlS (.pointer (some ⟨w.heap.size, 0, none⟩)) ?_
 have ck0 : w1.cell? ⟨w.heap.size, 0, none⟩ = some (.int .i64 (o.k)) := by have h := opA_k (HRo.out w1 V1.out); exact h
 refine WL.val (by kernel_rfl) (.int .i64 (o.k)) (by go_simp) ?_
 clear ck0
 simp only [Act.put, pqA, pqB, pqC]
 refine WL.nil (hK3 _ _ ?_)
 refine wp_block ?_
 refine wp_seq_k fun K4 hK4 => rgn ?_
 refine VlS (.bool false) ?_
 refine VlS (.bool false) ?_
 refine WL.nil (hK4 _ _ ?_)
 refine wp_cond_false rfl ?_
 refine wp_seq_k fun K5 hK5 => rgn ?_
 refine VlS (.bool false) ?_
 refine VlS (.bool false) ?_
 refine WL.nil (hK5 _ _ ?_)
 refine wp_cond_false rfl ?_
 refine wp_seq_k fun K6 hK6 => rgn ?_
 refine VlS (.bool false) ?_
 refine VlS (.bool false) ?_
 refine WL.nil (hK6 _ _ ?_)
 refine wp_cond_false rfl ?_
 refine wp_seq_k fun K7 hK7 => rgn ?_
 refine VlS (.bool false) ?_
 refine VlS (.bool false) ?_
 refine WL.nil (hK7 _ _ ?_)
 refine wp_cond_false rfl ?_
 refine wp_seq_k fun K8 hK8 => rgn ?_
 refine VlS (.bool false) ?_
 refine VlS (.bool false) ?_
 refine WL.nil (hK8 _ _ ?_)
 refine wp_cond_false rfl ?_
 refine wp_seq_k fun K9 hK9 => rgn ?_
 refine VlS (.bool false) ?_
 refine VlS (.bool false) ?_
 refine WL.nil (hK9 _ _ ?_)
 refine wp_cond_false rfl ?_
 refine wp_seq_k fun K10 hK10 => rgn ?_
 refine VlS (.bool false) ?_
 refine VlS (.bool false) ?_
 refine WL.nil (hK10 _ _ ?_)
 refine wp_cond_false rfl ?_
 refine wp_seq_k fun K11 hK11 => rgn ?_
 refine VlS (.bool false) ?_
 refine VlS (.bool false) ?_
 refine WL.nil (hK11 _ _ ?_)
 refine wp_cond_false rfl ?_
 refine wp_seq_k fun K12 hK12 => rgn ?_
 refine VlS (.bool false) ?_
 refine VlS (.bool false) ?_
 refine WL.nil (hK12 _ _ ?_)
 refine wp_cond_false rfl ?_
 refine wp_seq_k fun K13 hK13 => rgn ?_
 refine VlS (.bool false) ?_
 refine VlS (.bool false) ?_
 refine WL.nil (hK13 _ _ ?_)
 refine wp_cond_false rfl ?_
 refine wp_seq_k fun K14 hK14 => rgn ?_
 refine VlS (.bool false) ?_
 refine VlS (.bool false) ?_
 refine WL.nil (hK14 _ _ ?_)
 refine wp_cond_false rfl ?_
 refine wp_seq_k fun K15 hK15 => rgn ?_
 refine VlS (.bool false) ?_
 refine VlS (.bool false) ?_
 refine WL.nil (hK15 _ _ ?_)
 refine wp_cond_false rfl ?_
 refine wp_seq_k fun K16 hK16 => rgn ?_
 refine VlS (.bool false) ?_
 refine VlS (.bool false) ?_
 refine WL.nil (hK16 _ _ ?_)
 refine wp_cond_false rfl ?_
 refine wp_skip ?_
 refine hK2 _ _ ?_
 refine wp_seq_k fun K17 hK17 => ?_
 have V1d : Keep (Below w1.heap.size w1 w1.drew) := ⟨(Below.refl _ _).drew⟩
 have U1d : Keep (Below w.heap.size w w1.drew) := ⟨belowT U1.out V1d.out⟩
 have hS0 : Keep (∀ wx, Below w1.heap.size w1 wx → (fun wx : World => wx.cell? ⟨x, 1, none⟩ = some (.slice ha R.held.length hc)) wx) := ⟨fun wx hb => (GX.out.below (belowT U1.out hb) GX.out.lt).c 1 rfl⟩
 refine wp_region_held_drew (S := fun wx : World => wx.cell? ⟨x, 1, none⟩ = some (.slice ha R.held.length hc)) (by kernel_rfl) (hS0.out _ V1d.out) (fun hHeld => ?_)
 refine tkS (i := 0) (oi := ⟨some 259, Op.move (Operand.tmp 0), 27, _, _, none⟩) (v := .pointer (some ⟨d, 0, none⟩)) rfl (Or.inl ⟨by rfl, fun w hS => by clear hS; go_simp⟩) hHeld ?_
 refine tkS (i := 2) (oi := ⟨some 261, Op.move (Operand.tmp 1), 31, _, _, none⟩) (v := .pointer (some ⟨x, 0, none⟩)) rfl (Or.inl ⟨by rfl, fun w hS => by clear hS; go_simp⟩) hHeld ?_
 refine tkS (i := 3) (oi := ⟨some 262, Op.nilCheck (Operand.tmp 261), 0, _, _, none⟩) (v := .pointer (some ⟨x, 0, none⟩)) rfl (Or.inl ⟨by rfl, fun w hS => by clear hS; go_simp⟩) hHeld ?_
 refine tkS (i := 4) (oi := ⟨some 263, Op.fieldAddr 79 (Operand.tmp 262) 1, 0, _, _, none⟩) (v := .pointer (some ⟨x, 1, none⟩)) rfl (Or.inl ⟨by rfl, fun w hS => by clear hS; go_simp⟩) hHeld ?_
 refine tkS (i := 5) (oi := ⟨some 264, Op.load 55 (Operand.tmp 263), 55, _, _, none⟩) (v := .slice ha R.held.length hc) rfl (Or.inl ⟨by rfl, fun w hS => by go_simp⟩) hHeld ?_
 refine tkS (i := 6) (oi := ⟨some 265, Op.call { callee := Callee.builtin Builtin.len, args := #[Operand.tmp 264], argTypes := #[55] }, 3, _, _, none⟩) (v := .int .i64 (R.held.length : Int)) rfl (Or.inl ⟨by rfl, fun w hS => by clear hS; go_simp⟩) hHeld ?_
 refine wpAnyH_ready (rs := [1]) (by kernel_rfl) (by simp) ?_
 refine AllReadyH.cons (o := ⟨some 260, Op.call { callee := Callee.value (Operand.func 36), args := #[Operand.tmp 259], argTypes := #[27] }, 3, _, _, none⟩) rfl (fun K hK => ?_) AllReadyH.nil
 rw [if_pos (by rfl)]
 have hcon := dlen_any d _ g w1.drew (DG.out.below U1d.out)
 refine wp_callF 36 _ _ rfl Try.in36 #[ptr d] (by simp [Act.eval]) (fun u wx => u = .int .i64 (R.held.length : Int) ∧ w1.drew = wx) (hcon.mono fun e w' ⟨h1, h2⟩ => ⟨_, h1, by rw [HLn.out], h2.symm⟩) ?_
 clear hcon
 rintro _ w2 ⟨rfl, hwe⟩
 subst hwe
 refine hK _ _ (hS0.out _ V1d.out) fun hH2 => ?_
 clear hK
 simp only [Act.put, pqA, pqB, pqC]
 refine tkS (i := 7) (oi := ⟨some 266, Op.binOp BinOp.eql 3 (Operand.tmp 260) (Operand.tmp 265) 3, 4, _, _, none⟩) (v := .bool true) rfl (Or.inl ⟨by rfl, fun w hS => by clear hS; go_simp⟩) hH2 ?_
 refine tkS (i := 8) (oi := ⟨some 6, Op.assign (Operand.tmp 266), 4, _, _, none⟩) (v := .bool true) rfl (Or.inl ⟨by rfl, fun w hS => by clear hS; go_simp⟩) hH2 ?_
 refine wpAnyH_done (by kernel_rfl) ?_ _
 refine hK17 _ _ ?_
 refine wp_ret ?_
 go_ret
 exact ⟨rfl, U1d.out.mono hB, Grown.below U1d.out, _, rfl, rfl, (HAq.out.below U1d.out).self hi, uq_sub hi fun k hk => .inl hk⟩
set_option maxRecDepth 8000 in
set_option maxHeartbeats 4000000 in
theorem an_parents (B : Nat) (Ps : List PQ) (i : Nat) (p : PQ) (o : OP) (w : World) (hA : AQ B w Ps) (hi : Ps[i]? = some p) (hB : B ≤ w.heap.size) (hr : HRow w o.q.2 o.q.1.ps) (hL : (o.q.1.ps.length : Int) ≤ 9223372036854775806) (hK' : o.q.1.ps ≠ [] → ∀ k, o.q.2.ownBlock = some k → k < B) (hk : o.k = 12) : Calls Try.prog 13 #[ptr p.d, ptr p.x, .agg (opA o)] w (AnP B Ps i p w) := by
 obtain ⟨d, x, g, hv, wv, sv, R⟩ := p
 have hp : (⟨d, x, g, hv, wv, sv, R⟩ : PQ) ∈ Ps := List.mem_iff_getElem?.2 ⟨i, hi⟩
 have DG : Keep (DagAt w (UQ Ps) d g) := ⟨hA.1.dg _ hp⟩
 have RA_ : Keep (RAt w x hv wv sv R) := ⟨hA.1.rg _ hp⟩
 have RD : Keep (RRd w x R) := ⟨RA_.out.rd⟩
 have HI : Keep (DI g) := ⟨(hA.2 _ hp).1⟩
 have RI_ : Keep (RI R) := ⟨(hA.2 _ hp).2.1⟩
 have SM : Keep (Sm g R) := ⟨(hA.2 _ hp).2.2⟩
 have HAq := Keep.mk hA
 have HRq := Keep.mk hr
 have HLq := Keep.mk hL
 have HKq := Keep.mk hK'
 clear hA hr hL hK'
 obtain ⟨oo, HOo⟩ : ∃ a : Array Value, Keep (a = opA o) := ⟨_, ⟨rfl⟩⟩
 obtain ⟨vv, hvv⟩ : ∃ a : Array Value, Keep (a = vtx o.q.1.id.f o.q.1.ck o.q.2) := ⟨_, ⟨rfl⟩⟩
 rw [← HOo.out]
 show Calls Try.prog 13 #[ptr d, ptr x, .agg oo] w _
 have hk := Keep.mk hk
 obtain ⟨er, her⟩ : ∃ a, Keep (erP g.held o.h = a) := ⟨_, ⟨rfl⟩⟩
 go_enter Try.func13, Try.ntmps13
 refine wp_seq_k fun K1 hK1 => rgn ?_
 refine WL.box (by kernel_rfl) 41 (.tmp 2) rfl (oo) rfl ?_
 obtain ⟨w1, hwn⟩ : ∃ wx, Keep (wx = w.alloc (.cells (oo) 41)) := ⟨_, ⟨rfl⟩⟩
 rw [← hwn.out]
 have HX1 : Keep (Blk w1 w.heap.size 41 (oo)) := ⟨by rw [hwn.out]; exact Blk.new _ _ _⟩
 have U1 : Keep (Below w.heap.size w w1) := ⟨by rw [hwn.out]; exact below_new _ _⟩
 clear hwn
 have HRo : Keep (∀ wx, Below w1.heap.size w1 wx → wx.rangeAt w.heap.size 0 (opA o).toList) := ⟨fun wx hb => by have h := blk_rng (HX1.out.below hb HX1.out.lt); rw [HOo.out] at h; exact h⟩
 have HRh : Keep (∀ wx, Below w1.heap.size w1 wx → wx.rangeAt w.heap.size 36 (encH o.h)) := ⟨fun wx hb => opA_h (HRo.out wx hb)⟩
 have HRv : Keep (∀ wx, Below w1.heap.size w1 wx → wx.rangeAt w.heap.size 2 vv.toList) := ⟨fun wx hb => by rw [hvv.out]; exact opA_v (HRo.out wx hb)⟩
 have V1 : Keep (Below w1.heap.size w1 w1) := ⟨Below.refl _ _⟩
 simp only [Act.put, pqA, pqB, pqC]
 refine VlS (.bool false) ?_
 refine WL.nil (hK1 _ _ ?_)
 refine wp_seq_k fun K2 hK2 => ?_
 refine wp_seq_k fun K3 hK3 => rgn ?_
 refine VlS (.pointer (some ⟨w.heap.size, 0, none⟩)) ?_
 have ck0 : w1.cell? ⟨w.heap.size, 0, none⟩ = some (.int .i64 (12)) := by have h := opA_k (HRo.out w1 V1.out); rw [hk.out] at h; exact h
 refine WL.val (by kernel_rfl) (.int .i64 (12)) (by go_simp) ?_
 clear ck0
 simp only [Act.put, pqA, pqB, pqC]
 refine WL.nil (hK3 _ _ ?_)
 refine wp_block ?_
 refine wp_seq_k fun K4 hK4 => rgn ?_
 refine VlS (.bool false) ?_
 refine VlS (.bool false) ?_
 refine WL.nil (hK4 _ _ ?_)
 refine wp_cond_false rfl ?_
 refine wp_seq_k fun K5 hK5 => rgn ?_
 refine VlS (.bool false) ?_
 refine VlS (.bool false) ?_
 refine WL.nil (hK5 _ _ ?_)
 refine wp_cond_false rfl ?_
 refine wp_seq_k fun K6 hK6 => rgn ?_
 refine VlS (.bool false) ?_
 refine VlS (.bool false) ?_
 refine WL.nil (hK6 _ _ ?_)
 refine wp_cond_false rfl ?_
 refine wp_seq_k fun K7 hK7 => rgn ?_
 refine VlS (.bool false) ?_
 refine VlS (.bool false) ?_
 refine WL.nil (hK7 _ _ ?_)
 refine wp_cond_false rfl ?_
 refine wp_seq_k fun K8 hK8 => rgn ?_
 refine VlS (.bool false) ?_
 refine VlS (.bool false) ?_
 refine WL.nil (hK8 _ _ ?_)
 refine wp_cond_false rfl ?_
 refine wp_seq_k fun K9 hK9 => rgn ?_
 refine VlS (.bool false) ?_
 refine VlS (.bool false) ?_
 refine WL.nil (hK9 _ _ ?_)
 refine wp_cond_false rfl ?_
 refine wp_seq_k fun K10 hK10 => rgn ?_
 refine VlS (.bool false) ?_
 refine VlS (.bool false) ?_
 refine WL.nil (hK10 _ _ ?_)
 refine wp_cond_false rfl ?_
 refine wp_seq_k fun K11 hK11 => rgn ?_
 refine VlS (.bool false) ?_
 refine VlS (.bool false) ?_
 refine WL.nil (hK11 _ _ ?_)
 refine wp_cond_false rfl ?_
 refine wp_seq_k fun K12 hK12 => rgn ?_
 refine VlS (.bool false) ?_
 refine VlS (.bool false) ?_
 refine WL.nil (hK12 _ _ ?_)
 refine wp_cond_false rfl ?_
 refine wp_seq_k fun K13 hK13 => rgn ?_
 refine VlS (.bool false) ?_
 refine VlS (.bool false) ?_
 refine WL.nil (hK13 _ _ ?_)
 refine wp_cond_false rfl ?_
 refine wp_seq_k fun K14 hK14 => rgn ?_
 refine VlS (.bool false) ?_
 refine VlS (.bool false) ?_
 refine WL.nil (hK14 _ _ ?_)
 refine wp_cond_false rfl ?_
 refine wp_seq_k fun K15 hK15 => rgn ?_
 refine VlS (.bool true) ?_
 refine VlS (.bool true) ?_
 refine WL.nil (hK15 _ _ ?_)
 refine wp_cond_true rfl ?_
 refine wp_seq_k fun K16 hK16 => rgn ?_
 refine VlS (.pointer (some ⟨d, 0, none⟩)) ?_
 refine VlS (.pointer (some ⟨w.heap.size, 36, none⟩)) ?_
 refine WL.mid (by kernel_rfl) 36 (.tmp 228) rfl w.heap.size 36 rfl (encH o.h) _ (HRh.out _ V1.out) Try.underlying36 rfl (Try.size36L o.h) ?_
 rw [enc_load]
 simp only [Act.put, pqA, pqB, pqC]
 have hcon := (parents_any d o.h _ g w1 (DG.out.below U1.out) (fun v hv => by have := chk_ok (HI.out.hc v (List.mem_of_find?_eq_some hv)); omega)).mono fun e w' h => par_of h
 rw [her.out] at hcon
 refine WL.callF (by kernel_rfl) 26 _ _ rfl Try.in26 #[ptr d, .agg (bytesA 32 o.h.f)] (by simp [Act.eval]) ?_
 refine (hcon).mono ?_
 rintro e w2 ⟨u2, rfl, hf⟩
 refine ⟨_, rfl, ?_⟩
 clear hcon
 have V2 := Keep.mk (belowT V1.out hf.bel)
 have U2 := Keep.mk (belowT U1.out hf.bel)
 have F2 := Keep.mk hf
 clear hf
 simp only [Act.put, pqA, pqB, pqC]
 refine VlS (.tuple #[u2, .int .i64 er]) ?_
 refine VlS (u2) ?_
 refine VlS (.int .i64 er) ?_
 refine VlS (u2) ?_
 refine VlS (.int .i64 er) ?_
 refine WL.nil (hK16 _ _ ?_)
 refine wp_seq_k fun K17 hK17 => rgn ?_
 refine VlS (.pointer (some ⟨x, 0, none⟩)) ?_
 refine VlS (.pointer (some ⟨w.heap.size, 36, none⟩)) ?_
 refine WL.mid (by kernel_rfl) 36 (.tmp 235) rfl w.heap.size 36 rfl (encH o.h) _ (HRh.out _ V2.out) Try.underlying36 rfl (Try.size36L o.h) ?_
 rw [enc_load]
 simp only [Act.put, pqA, pqB, pqC]
 have hcon := (rparents_any x o.h R w2 (RD.out.below U2.out) RI_.out).mono fun e w' h => par_of h
 rw [SM.out.hs, her.out] at hcon
 refine WL.callF (by kernel_rfl) 55 _ _ rfl Try.in55 #[ptr x, .agg (bytesA 32 o.h.f)] (by simp [Act.eval]) ?_
 refine (hcon).mono ?_
 rintro e w3 ⟨u3, rfl, hf⟩
 refine ⟨_, rfl, ?_⟩
 clear hcon
 have V3 := Keep.mk (belowT V2.out hf.bel)
 have U3 := Keep.mk (belowT U2.out hf.bel)
 have F3 := Keep.mk hf
 have X3 : Keep (Below w2.heap.size w2 w3) := ⟨hf.bel⟩
 clear hf
 have L2 : Keep (((parH g.held o.h).length : Int) ≤ 9223372036854775807) := ⟨by unfold parH; split; (rename_i v hv; have := chk_ok (HI.out.hc v (List.mem_of_find?_eq_some hv)); omega); simp⟩
 simp only [Act.put, pqA, pqB, pqC]
 refine VlS (.tuple #[u3, .int .i64 er]) ?_
 refine VlS (u3) ?_
 refine VlS (.int .i64 er) ?_
 refine VlS (u3) ?_
 refine VlS (.int .i64 er) ?_
 refine WL.nil (hK17 _ _ ?_)
 refine wp_seq_k fun K18 hK18 => rgn ?_
 refine VlS (u2) ?_
 refine VlS (u3) ?_
 have hcon := smH_any u2 u3 _ _ w3 (F2.out.own.row.below X3.out) F3.out.own.row L2.out
 rw [decide_eq_true rfl] at hcon
 refine WL.callF (by kernel_rfl) 19 _ _ rfl Try.in19 #[u2, u3] (by simp [Act.eval]) ?_
 refine (hcon).mono ?_
 rintro e w4 ⟨rfl, hz⟩
 refine ⟨_, rfl, ?_⟩
 clear hcon
 have V4 := Keep.mk (belowT V3.out hz)
 have U4 := Keep.mk (belowT U3.out hz)
 clear hz
 simp only [Act.put, pqA, pqB, pqC]
 refine VlS (.bool true) ?_
 refine VlS (.int .i64 er) ?_
 refine VlS (.int .i64 er) ?_
 refine VlS (.bool true) ?_
 refine VlS (.bool true) ?_
 refine VlS (.bool true) ?_
 refine WL.nil (hK18 _ _ ?_)
 refine wp_ret ?_
 go_ret
 exact ⟨rfl, U4.out.mono hB, Grown.below U4.out, _, rfl, rfl, (HAq.out.below U4.out).self hi, uq_sub hi fun k hk => .inl hk⟩
set_option maxRecDepth 8000 in
set_option maxHeartbeats 4000000 in
theorem an_settle (B : Nat) (Ps : List PQ) (i : Nat) (p : PQ) (o : OP) (w : World) (hA : AQ B w Ps) (hi : Ps[i]? = some p) (hB : B ≤ w.heap.size) (hr : HRow w o.q.2 o.q.1.ps) (hL : (o.q.1.ps.length : Int) ≤ 9223372036854775806) (hK' : o.q.1.ps ≠ [] → ∀ k, o.q.2.ownBlock = some k → k < B) (hk : o.k = 5) : Calls Try.prog 13 #[ptr p.d, ptr p.x, .agg (opA o)] w (AnP B Ps i p w) := by
 obtain ⟨d, x, g, hv, wv, sv, R⟩ := p
 have hp : (⟨d, x, g, hv, wv, sv, R⟩ : PQ) ∈ Ps := List.mem_iff_getElem?.2 ⟨i, hi⟩
 have DG : Keep (DagAt w (UQ Ps) d g) := ⟨hA.1.dg _ hp⟩
 have RA_ : Keep (RAt w x hv wv sv R) := ⟨hA.1.rg _ hp⟩
 have RD : Keep (RRd w x R) := ⟨RA_.out.rd⟩
 have HI : Keep (DI g) := ⟨(hA.2 _ hp).1⟩
 have RI_ : Keep (RI R) := ⟨(hA.2 _ hp).2.1⟩
 have SM : Keep (Sm g R) := ⟨(hA.2 _ hp).2.2⟩
 have HAq := Keep.mk hA
 have HRq := Keep.mk hr
 have HLq := Keep.mk hL
 have HKq := Keep.mk hK'
 clear hA hr hL hK'
 obtain ⟨oo, HOo⟩ : ∃ a : Array Value, Keep (a = opA o) := ⟨_, ⟨rfl⟩⟩
 obtain ⟨vv, hvv⟩ : ∃ a : Array Value, Keep (a = vtx o.q.1.id.f o.q.1.ck o.q.2) := ⟨_, ⟨rfl⟩⟩
 rw [← HOo.out]
 show Calls Try.prog 13 #[ptr d, ptr x, .agg oo] w _
 have hk := Keep.mk hk
 obtain ⟨ee, hee⟩ : ∃ a, Keep (rdyE g.held g.wait o.h = a) := ⟨_, ⟨rfl⟩⟩
 obtain ⟨hh, hhh⟩ : ∃ a : Int, Keep ((if ee = 0 then 2 else 0) = a) := ⟨_, ⟨rfl⟩⟩
 go_enter Try.func13, Try.ntmps13
 refine wp_seq_k fun K1 hK1 => rgn ?_
 refine WL.box (by kernel_rfl) 41 (.tmp 2) rfl (oo) rfl ?_
 obtain ⟨w1, hwn⟩ : ∃ wx, Keep (wx = w.alloc (.cells (oo) 41)) := ⟨_, ⟨rfl⟩⟩
 rw [← hwn.out]
 have HX1 : Keep (Blk w1 w.heap.size 41 (oo)) := ⟨by rw [hwn.out]; exact Blk.new _ _ _⟩
 have U1 : Keep (Below w.heap.size w w1) := ⟨by rw [hwn.out]; exact below_new _ _⟩
 clear hwn
 have HRo : Keep (∀ wx, Below w1.heap.size w1 wx → wx.rangeAt w.heap.size 0 (opA o).toList) := ⟨fun wx hb => by have h := blk_rng (HX1.out.below hb HX1.out.lt); rw [HOo.out] at h; exact h⟩
 have HRh : Keep (∀ wx, Below w1.heap.size w1 wx → wx.rangeAt w.heap.size 36 (encH o.h)) := ⟨fun wx hb => opA_h (HRo.out wx hb)⟩
 have HRv : Keep (∀ wx, Below w1.heap.size w1 wx → wx.rangeAt w.heap.size 2 vv.toList) := ⟨fun wx hb => by rw [hvv.out]; exact opA_v (HRo.out wx hb)⟩
 have V1 : Keep (Below w1.heap.size w1 w1) := ⟨Below.refl _ _⟩
 simp only [Act.put, pqA, pqB, pqC]
 refine VlS (.bool false) ?_
 refine WL.nil (hK1 _ _ ?_)
 refine wp_seq_k fun K2 hK2 => ?_
 refine wp_seq_k fun K3 hK3 => rgn ?_
 refine VlS (.pointer (some ⟨w.heap.size, 0, none⟩)) ?_
 have ck0 : w1.cell? ⟨w.heap.size, 0, none⟩ = some (.int .i64 (5)) := by have h := opA_k (HRo.out w1 V1.out); rw [hk.out] at h; exact h
 refine WL.val (by kernel_rfl) (.int .i64 (5)) (by go_simp) ?_
 clear ck0
 simp only [Act.put, pqA, pqB, pqC]
 refine WL.nil (hK3 _ _ ?_)
 refine wp_block ?_
 refine wp_seq_k fun K4 hK4 => rgn ?_
 refine VlS (.bool false) ?_
 refine VlS (.bool false) ?_
 refine WL.nil (hK4 _ _ ?_)
 refine wp_cond_false rfl ?_
 refine wp_seq_k fun K5 hK5 => rgn ?_
 refine VlS (.bool false) ?_
 refine VlS (.bool false) ?_
 refine WL.nil (hK5 _ _ ?_)
 refine wp_cond_false rfl ?_
 refine wp_seq_k fun K6 hK6 => rgn ?_
 refine VlS (.bool false) ?_
 refine VlS (.bool false) ?_
 refine WL.nil (hK6 _ _ ?_)
 refine wp_cond_false rfl ?_
 refine wp_seq_k fun K7 hK7 => rgn ?_
 refine VlS (.bool false) ?_
 refine VlS (.bool false) ?_
 refine WL.nil (hK7 _ _ ?_)
 refine wp_cond_false rfl ?_
 refine wp_seq_k fun K8 hK8 => rgn ?_
 refine VlS (.bool true) ?_
 refine VlS (.bool true) ?_
 refine WL.nil (hK8 _ _ ?_)
 refine wp_cond_true rfl ?_
 refine wp_seq_k fun K9 hK9 => rgn ?_
 refine VlS (.pointer (some ⟨d, 0, none⟩)) ?_
 refine VlS (.pointer (some ⟨w.heap.size, 36, none⟩)) ?_
 refine WL.mid (by kernel_rfl) 36 (.tmp 143) rfl w.heap.size 36 rfl (encH o.h) _ (HRh.out _ V1.out) Try.underlying36 rfl (Try.size36L o.h) ?_
 rw [enc_load]
 simp only [Act.put, pqA, pqB, pqC]
 have hcon := settle_any d o.h (UQ Ps) g w1 (DG.out.below U1.out) HI.out
 rw [hee.out, hhh.out] at hcon
 refine WL.callF (by kernel_rfl) 29 _ _ rfl Try.in29 #[ptr d, .agg (bytesA 32 o.h.f)] (by simp [Act.eval]) ?_
 refine (hcon).mono ?_
 rintro e w2 ⟨g2, rfl, hst, hdi, hset⟩
 refine ⟨_, rfl, ?_⟩
 clear hcon
 have GZ2 := Keep.mk ((Grown.below (S := UQ Ps) U1.out).next hst.grown fun k _ e => ⟨_, hp, .inl e⟩)
 have SB2 : Keep (∀ k, DgS d g2 k → DgS d g k ∨ w.heap.size ≤ k) := ⟨fun k hk => (hst.sub k hk).imp id fun h => Nat.le_trans U1.out.size h⟩
 have hm := (HAq.out.1.below U1.out).prog hi (Nat.le_trans hB U1.out.size) hst
 have M2 := Keep.mk hm.1
 have Z2 := Keep.mk ((U1.out.mono hB).trans hm.2)
 have I2 := Keep.mk hdi
 have A2 := Keep.mk hset
 have HR2 : Keep (w2.rangeAt w.heap.size 36 (encH o.h)) := ⟨rangeAt_grown (HRh.out w1 V1.out) hst.grown fun e => by have := DG.out.lt _ (DG.out.av _ e); omega⟩
 have hi2 : (Ps.set i { (⟨d, x, g, hv, wv, sv, R⟩ : PQ) with g := g2 })[i]? = some { (⟨d, x, g, hv, wv, sv, R⟩ : PQ) with g := g2 } := by rw [List.getElem?_set, if_pos rfl, if_pos (List.getElem?_eq_some_iff.1 hi).1]
 have Hi2 := Keep.mk hi2
 have RA2 : Keep (RAt w2 x hv wv sv R) := ⟨M2.out.rg _ (List.mem_iff_getElem?.2 ⟨i, hi2⟩)⟩
 clear hm hst hdi hset hi2
 simp only [Act.put, pqA, pqB, pqC]
 refine VlS (.tuple #[.int .i64 hh, .int .i64 ee]) ?_
 refine VlS (.int .i64 hh) ?_
 refine VlS (.int .i64 ee) ?_
 refine VlS (.int .i64 hh) ?_
 refine VlS (.int .i64 ee) ?_
 refine WL.nil (hK9 _ _ ?_)
 refine wp_seq_k fun K10 hK10 => rgn ?_
 refine VlS (.pointer (some ⟨x, 0, none⟩)) ?_
 refine VlS (.pointer (some ⟨w.heap.size, 36, none⟩)) ?_
 refine WL.mid (by kernel_rfl) 36 (.tmp 150) rfl w.heap.size 36 rfl (encH o.h) _ HR2.out Try.underlying36 rfl (Try.size36L o.h) ?_
 rw [enc_load]
 simp only [Act.put, pqA, pqB, pqC]
 have hcon := rsettle_any x o.h hv wv sv R w2 RA2.out RI_.out
 rw [SM.out.hs, SM.out.ws, hee.out, hhh.out] at hcon
 refine WL.callF (by kernel_rfl) 42 _ _ rfl Try.in42 #[ptr x, .agg (bytesA 32 o.h.f)] (by simp [Act.eval]) ?_
 refine (hcon).mono ?_
 rintro e w3 ⟨rfl, hv3, wv3, sv3, R3, hst, hset⟩
 refine ⟨_, rfl, ?_⟩
 clear hcon
 have GZ3 := Keep.mk (GZ2.out.next hst.grown fun k _ e => ⟨_, hp, .inr e⟩)
 have SB3 := Keep.mk hst.sub
 have hm := M2.out.ref Hi2.out (Nat.le_trans hB Z2.out.size) hst
 have M3 := Keep.mk hm.1
 have Z3 := Keep.mk (Z2.out.trans hm.2)
 have A3 := Keep.mk hset
 clear hm hst hset
 simp only [Act.put, pqA, pqB, pqC]
 refine VlS (.tuple #[.int .i64 hh, .int .i64 ee]) ?_
 refine VlS (.int .i64 hh) ?_
 refine VlS (.int .i64 ee) ?_
 refine VlS (.int .i64 hh) ?_
 refine VlS (.int .i64 ee) ?_
 refine WL.nil (hK10 _ _ ?_)
 refine wp_seq_k fun K11 hK11 => rgn ?_
 refine VlS (.int .i64 hh) ?_
 refine VlS (.int .i64 hh) ?_
 refine VlS (.bool true) ?_
 refine VlS (.bool true) ?_
 refine VlS (.int .i64 ee) ?_
 refine VlS (.int .i64 ee) ?_
 refine VlS (.bool true) ?_
 refine VlS (.bool true) ?_
 refine VlS (.bool true) ?_
 refine WL.nil (hK11 _ _ ?_)
 refine wp_ret ?_
 go_ret
 have hs3 := SM.out.set A2.out A3.out
 have hmp := M3.out
 rw [List.set_set] at hmp
 exact ⟨rfl, Z3.out, GZ3.out, (⟨d, x, g2, hv3, wv3, sv3, R3⟩ : PQ), rfl, rfl, HAq.out.set hi (show MP B w3 (Ps.set i ⟨d, x, g2, hv3, wv3, sv3, R3⟩) from hmp) ⟨I2.out, hs3.setRI I2.out RI_.out (fun v hv => by rw [SM.out.ws] at hv; rw [SM.out.hs]; exact HI.out.dj v hv) A3.out, hs3⟩, uq_sub hi fun k hk => hk.elim (fun h => (SB2.out k h).imp .inl id) fun h => (SB3.out k h).imp .inr fun h => Nat.le_trans GZ2.out.size h⟩
set_option maxRecDepth 8000 in
set_option maxHeartbeats 4000000 in
theorem an_forget (B : Nat) (Ps : List PQ) (i : Nat) (p : PQ) (o : OP) (w : World) (hA : AQ B w Ps) (hi : Ps[i]? = some p) (hB : B ≤ w.heap.size) (hr : HRow w o.q.2 o.q.1.ps) (hL : (o.q.1.ps.length : Int) ≤ 9223372036854775806) (hK' : o.q.1.ps ≠ [] → ∀ k, o.q.2.ownBlock = some k → k < B) (hk : o.k = 6) : Calls Try.prog 13 #[ptr p.d, ptr p.x, .agg (opA o)] w (AnP B Ps i p w) := by
 obtain ⟨d, x, g, hv, wv, sv, R⟩ := p
 have hp : (⟨d, x, g, hv, wv, sv, R⟩ : PQ) ∈ Ps := List.mem_iff_getElem?.2 ⟨i, hi⟩
 have DG : Keep (DagAt w (UQ Ps) d g) := ⟨hA.1.dg _ hp⟩
 have RA_ : Keep (RAt w x hv wv sv R) := ⟨hA.1.rg _ hp⟩
 have RD : Keep (RRd w x R) := ⟨RA_.out.rd⟩
 have HI : Keep (DI g) := ⟨(hA.2 _ hp).1⟩
 have RI_ : Keep (RI R) := ⟨(hA.2 _ hp).2.1⟩
 have SM : Keep (Sm g R) := ⟨(hA.2 _ hp).2.2⟩
 have HAq := Keep.mk hA
 have HRq := Keep.mk hr
 have HLq := Keep.mk hL
 have HKq := Keep.mk hK'
 clear hA hr hL hK'
 obtain ⟨oo, HOo⟩ : ∃ a : Array Value, Keep (a = opA o) := ⟨_, ⟨rfl⟩⟩
 obtain ⟨vv, hvv⟩ : ∃ a : Array Value, Keep (a = vtx o.q.1.id.f o.q.1.ck o.q.2) := ⟨_, ⟨rfl⟩⟩
 rw [← HOo.out]
 show Calls Try.prog 13 #[ptr d, ptr x, .agg oo] w _
 have hk := Keep.mk hk
 obtain ⟨b2, hb2⟩ : ∃ a, Keep (hasB g.wait o.h = a) := ⟨_, ⟨rfl⟩⟩
 go_enter Try.func13, Try.ntmps13
 refine wp_seq_k fun K1 hK1 => rgn ?_
 refine WL.box (by kernel_rfl) 41 (.tmp 2) rfl (oo) rfl ?_
 obtain ⟨w1, hwn⟩ : ∃ wx, Keep (wx = w.alloc (.cells (oo) 41)) := ⟨_, ⟨rfl⟩⟩
 rw [← hwn.out]
 have HX1 : Keep (Blk w1 w.heap.size 41 (oo)) := ⟨by rw [hwn.out]; exact Blk.new _ _ _⟩
 have U1 : Keep (Below w.heap.size w w1) := ⟨by rw [hwn.out]; exact below_new _ _⟩
 clear hwn
 have HRo : Keep (∀ wx, Below w1.heap.size w1 wx → wx.rangeAt w.heap.size 0 (opA o).toList) := ⟨fun wx hb => by have h := blk_rng (HX1.out.below hb HX1.out.lt); rw [HOo.out] at h; exact h⟩
 have HRh : Keep (∀ wx, Below w1.heap.size w1 wx → wx.rangeAt w.heap.size 36 (encH o.h)) := ⟨fun wx hb => opA_h (HRo.out wx hb)⟩
 have HRv : Keep (∀ wx, Below w1.heap.size w1 wx → wx.rangeAt w.heap.size 2 vv.toList) := ⟨fun wx hb => by rw [hvv.out]; exact opA_v (HRo.out wx hb)⟩
 have V1 : Keep (Below w1.heap.size w1 w1) := ⟨Below.refl _ _⟩
 simp only [Act.put, pqA, pqB, pqC]
 refine VlS (.bool false) ?_
 refine WL.nil (hK1 _ _ ?_)
 refine wp_seq_k fun K2 hK2 => ?_
 refine wp_seq_k fun K3 hK3 => rgn ?_
 refine VlS (.pointer (some ⟨w.heap.size, 0, none⟩)) ?_
 have ck0 : w1.cell? ⟨w.heap.size, 0, none⟩ = some (.int .i64 (6)) := by have h := opA_k (HRo.out w1 V1.out); rw [hk.out] at h; exact h
 refine WL.val (by kernel_rfl) (.int .i64 (6)) (by go_simp) ?_
 clear ck0
 simp only [Act.put, pqA, pqB, pqC]
 refine WL.nil (hK3 _ _ ?_)
 refine wp_block ?_
 refine wp_seq_k fun K4 hK4 => rgn ?_
 refine VlS (.bool false) ?_
 refine VlS (.bool false) ?_
 refine WL.nil (hK4 _ _ ?_)
 refine wp_cond_false rfl ?_
 refine wp_seq_k fun K5 hK5 => rgn ?_
 refine VlS (.bool false) ?_
 refine VlS (.bool false) ?_
 refine WL.nil (hK5 _ _ ?_)
 refine wp_cond_false rfl ?_
 refine wp_seq_k fun K6 hK6 => rgn ?_
 refine VlS (.bool false) ?_
 refine VlS (.bool false) ?_
 refine WL.nil (hK6 _ _ ?_)
 refine wp_cond_false rfl ?_
 refine wp_seq_k fun K7 hK7 => rgn ?_
 refine VlS (.bool false) ?_
 refine VlS (.bool false) ?_
 refine WL.nil (hK7 _ _ ?_)
 refine wp_cond_false rfl ?_
 refine wp_seq_k fun K8 hK8 => rgn ?_
 refine VlS (.bool false) ?_
 refine VlS (.bool false) ?_
 refine WL.nil (hK8 _ _ ?_)
 refine wp_cond_false rfl ?_
 refine wp_seq_k fun K9 hK9 => rgn ?_
 refine VlS (.bool true) ?_
 refine VlS (.bool true) ?_
 refine WL.nil (hK9 _ _ ?_)
 refine wp_cond_true rfl ?_
 refine wp_seq_k fun K10 hK10 => ?_
 have V1d : Keep (Below w1.heap.size w1 w1.drew) := ⟨(Below.refl _ _).drew⟩
 have U1d : Keep (Below w.heap.size w w1.drew) := ⟨belowT U1.out V1d.out⟩
 have hS0 : Keep (∀ wx, Below w1.heap.size w1 wx → wx.rangeAt w.heap.size 36 (encH o.h)) := ⟨HRh.out⟩
 refine wp_region_held_drew (S := fun wx : World => wx.rangeAt w.heap.size 36 (encH o.h)) (by kernel_rfl) (hS0.out _ V1d.out) (fun hHeld => ?_)
 refine tkS (i := 0) (oi := ⟨some 165, Op.move (Operand.tmp 0), 27, _, _, none⟩) (v := .pointer (some ⟨d, 0, none⟩)) rfl (Or.inl ⟨by rfl, fun w hS => by clear hS; go_simp⟩) hHeld ?_
 refine tkS (i := 1) (oi := ⟨some 166, Op.fieldAddr 41 (Operand.tmp 5) 3, 0, _, _, none⟩) (v := .pointer (some ⟨w.heap.size, 36, none⟩)) rfl (Or.inl ⟨by rfl, fun w hS => by clear hS; go_simp⟩) hHeld ?_
 refine tkS (i := 2) (oi := ⟨some 167, Op.load 36 (Operand.tmp 166), 36, _, _, none⟩) (v := .agg (bytesA 32 o.h.f)) rfl (yieldsIf_ldE (by rfl) (Operand.tmp 166) rfl w.heap.size 36 rfl o.h fun w hS => hS) hHeld ?_
 refine tkS (i := 4) (oi := ⟨some 169, Op.move (Operand.tmp 1), 31, _, _, none⟩) (v := .pointer (some ⟨x, 0, none⟩)) rfl (Or.inl ⟨by rfl, fun w hS => by clear hS; go_simp⟩) hHeld ?_
 refine tkS (i := 5) (oi := ⟨some 170, Op.fieldAddr 41 (Operand.tmp 5) 3, 0, _, _, none⟩) (v := .pointer (some ⟨w.heap.size, 36, none⟩)) rfl (Or.inl ⟨by rfl, fun w hS => by clear hS; go_simp⟩) hHeld ?_
 refine tkS (i := 6) (oi := ⟨some 171, Op.load 36 (Operand.tmp 170), 36, _, _, none⟩) (v := .agg (bytesA 32 o.h.f)) rfl (yieldsIf_ldE (by rfl) (Operand.tmp 170) rfl w.heap.size 36 rfl o.h fun w hS => hS) hHeld ?_
 refine wpAnyH_ready (rs := [3]) (by kernel_rfl) (by simp) ?_
 refine AllReadyH.cons (o := ⟨some 168, Op.call { callee := Callee.value (Operand.func 43), args := #[Operand.tmp 165, Operand.tmp 167], argTypes := #[27, 36] }, 4, _, _, none⟩) rfl (fun K hK => ?_) AllReadyH.nil
 rw [if_pos (by rfl)]
 have hcon := forgets_any d o.h (UQ Ps) g w1.drew (DG.out.below U1d.out) HI.out
 rw [hb2.out] at hcon
 refine wp_callF 43 _ _ rfl Try.in43 #[ptr d, .agg (bytesA 32 o.h.f)] (by simp [Act.eval]) (fun u wx => u = .bool b2 ∧ ∃ g2, Ste w1.drew wx (UQ Ps) d g g2 ∧ DI g2 ∧ fgtG g o.h g2) (hcon.mono fun e w' ⟨g2, h1, h2⟩ => ⟨_, h1, rfl, g2, h2⟩) ?_
 clear hcon
 rintro _ w2 ⟨rfl, g2, hst, hdi, hset⟩
 have GZ2 := Keep.mk ((Grown.below (S := UQ Ps) U1d.out).next hst.grown fun k _ e => ⟨_, hp, .inl e⟩)
 have SB2 : Keep (∀ k, DgS d g2 k → DgS d g k ∨ w.heap.size ≤ k) := ⟨fun k hk => (hst.sub k hk).imp id fun h => Nat.le_trans U1d.out.size h⟩
 have hm := (HAq.out.1.below U1d.out).prog hi (Nat.le_trans hB U1d.out.size) hst
 have M2 := Keep.mk hm.1
 have Z2 := Keep.mk ((U1d.out.mono hB).trans hm.2)
 have I2 := Keep.mk hdi
 have A2 := Keep.mk hset
 have HR2 : Keep (w2.rangeAt w.heap.size 36 (encH o.h)) := ⟨rangeAt_grown (HRh.out w1.drew V1d.out) hst.grown fun e => by have := DG.out.lt _ (DG.out.av _ e); omega⟩
 have hi2 : (Ps.set i { (⟨d, x, g, hv, wv, sv, R⟩ : PQ) with g := g2 })[i]? = some { (⟨d, x, g, hv, wv, sv, R⟩ : PQ) with g := g2 } := by rw [List.getElem?_set, if_pos rfl, if_pos (List.getElem?_eq_some_iff.1 hi).1]
 have Hi2 := Keep.mk hi2
 have RA2 : Keep (RAt w2 x hv wv sv R) := ⟨M2.out.rg _ (List.mem_iff_getElem?.2 ⟨i, hi2⟩)⟩
 clear hm hst hdi hset hi2
 refine hK _ _ HR2.out fun hH2 => ?_
 clear hK
 simp only [Act.put, pqA, pqB, pqC]
 refine wpAnyH_ready (rs := [7]) (by kernel_rfl) (by simp) ?_
 refine AllReadyH.cons (o := ⟨some 172, Op.call { callee := Callee.value (Operand.func 44), args := #[Operand.tmp 169, Operand.tmp 171], argTypes := #[31, 36] }, 4, _, _, none⟩) rfl (fun K hK => ?_) AllReadyH.nil
 rw [if_pos (by rfl)]
 have hcon := (rforgetS_any x o.h hv wv sv R w2 RA2.out RI_.out).mono (R' := fun e w' => e = .returned (.bool b2) ∧ ∃ wv' R', RSte w2 w' x hv wv sv R hv wv' sv R' ∧ fgtR R o.h R') (fun e w' h => h.elim (fun ⟨h1, h2, h3⟩ => ⟨by rw [h2, ← hb2.out, ← SM.out.ws, h1], wv, R, RSte.refl RA2.out h3, .inl ⟨h1, rfl⟩⟩) fun ⟨m, h1, h2, h3, h4, wv', h5⟩ => ⟨by rw [h4, ← hb2.out, ← SM.out.ws, h2], wv', _, h5, .inr ⟨m, h2, h3, rfl⟩⟩)
 refine wp_callF 44 _ _ rfl Try.in44 #[ptr x, .agg (bytesA 32 o.h.f)] (by simp [Act.eval]) (fun u wx => u = .bool b2 ∧ ∃ wv' R', RSte w2 wx x hv wv sv R hv wv' sv R' ∧ fgtR R o.h R') (hcon.mono fun e w' ⟨h1, h2⟩ => ⟨_, h1, rfl, h2⟩) ?_
 clear hcon
 rintro _ w3 ⟨rfl, wv3, R3, hst, hset⟩
 have HR3 : Keep (w3.rangeAt w.heap.size 36 (encH o.h)) := ⟨rangeAt_grown HR2.out hst.grown fun e => by have := RA_.out.lt _ e; omega⟩
 have GZ3 := Keep.mk (GZ2.out.next hst.grown fun k _ e => ⟨_, hp, .inr e⟩)
 have SB3 := Keep.mk hst.sub
 have hm := M2.out.ref Hi2.out (Nat.le_trans hB Z2.out.size) hst
 have M3 := Keep.mk hm.1
 have Z3 := Keep.mk (Z2.out.trans hm.2)
 have A3 := Keep.mk hset
 clear hm hst hset
 refine hK _ _ HR3.out fun hH3 => ?_
 clear hK
 simp only [Act.put, pqA, pqB, pqC]
 refine tkS (i := 8) (oi := ⟨some 173, Op.binOp BinOp.eql 4 (Operand.tmp 168) (Operand.tmp 172) 4, 4, _, _, none⟩) (v := .bool true) rfl (Or.inl ⟨by rfl, fun w hS => by clear hS; go_simp⟩) hH3 ?_
 refine tkS (i := 9) (oi := ⟨some 6, Op.assign (Operand.tmp 173), 4, _, _, none⟩) (v := .bool true) rfl (Or.inl ⟨by rfl, fun w hS => by clear hS; go_simp⟩) hH3 ?_
 refine wpAnyH_done (by kernel_rfl) ?_ _
 refine hK10 _ _ ?_
 refine wp_ret ?_
 go_ret
 have hs3 := SM.out.fgtQ I2.out RI_.out A2.out A3.out
 have hmp := M3.out
 rw [List.set_set] at hmp
 exact ⟨rfl, Z3.out, GZ3.out, (⟨d, x, g2, hv, wv3, sv, R3⟩ : PQ), rfl, rfl, HAq.out.set hi (show MP B w3 (Ps.set i ⟨d, x, g2, hv, wv3, sv, R3⟩) from hmp) ⟨I2.out, hs3.2, hs3.1⟩, uq_sub hi fun k hk => hk.elim (fun h => (SB2.out k h).imp .inl id) fun h => (SB3.out k h).imp .inr fun h => Nat.le_trans GZ2.out.size h⟩
end Go.Proofs.Ytogmdfhicbmplaa
namespace Go.Proofs.Ytogmdfhicbmplaa
open Go.RowKit
set_option linter.unusedSimpArgs false
set_option linter.unusedVariables false

theorem Try.in39 (w : World) (vs : Array Value) : (callFunc 39 vs).run Try.prog w = .ok (.enter 39 vs) w := by kernel_rfl
theorem run_equal_arr (c : Nat → Int) (w : World) : (Op.equalIn 10000 36 (.agg (bytesA 32 c)) (.agg (bytesA 32 c))).run Try.prog w = .ok true w := by
 obtain ⟨i, hi, _⟩ := Option.map_eq_some_iff.1 Try.size5
 rw [run_equalIn_array (P := Try.prog) w 9999 _ _ Try.underlying36 hi, Try.cells5, run_items c 9998 w _ (fun j hj => List.mem_range.1 hj)]
theorem built9v (b : Int) : Try.prog.built 36 [(9, .int .u8 b)] = some (bytesA 32 (upd (fun _ => 0) 9 b)) := by kernel_rfl
theorem OwnX.grown {w w' : World} {v : Value} {n : Nat} {S : Nat → Prop} (h : OwnX w v n) (hg : Grown w w' S) (hs : ∀ k, v.ownBlock = some k → ¬ S k) : OwnX w' v n := by
 obtain ⟨xs, h⟩ := h
 rcases h.2 with ⟨rfl, e⟩ | ⟨g, cap, cur, rfl, h1, h2, h3, h4, h5, h6⟩
 ·exact ⟨xs, h.1, .inl ⟨rfl, e⟩⟩
 ·have hB : Blk w g 36 cur := h2
  exact ⟨xs, h.1, .inr ⟨g, cap, cur, rfl, h1, hg.blk hB (hs g rfl), h3, h4, h5, h6⟩⟩
set_option maxRecDepth 8000 in
set_option maxHeartbeats 1000000 in
theorem sameV_any (c : Nat → Int) (k : Int) (p1 p2 : Value) (L : List Hs) (w : World) (h1 : HRow w p1 L) (h2 : HRow w p2 L) (hl : (L.length : Int) ≤ 9223372036854775807) : Calls Try.prog 39 #[.agg (vtx c k p1), .agg (vtx c k p2)] w fun e w' => e = .returned (.bool true) ∧ Below w.heap.size w w' := by
 obtain ⟨a1, c1_, rfl⟩ := h1.form
 obtain ⟨a2, c2_, rfl⟩ := h2.form
 obtain ⟨va, hva⟩ : ∃ a : Array Value, Keep (a = vtx c k (.slice a1 L.length c1_)) := ⟨_, ⟨rfl⟩⟩
 obtain ⟨vb, hvb⟩ : ∃ a : Array Value, Keep (a = vtx c k (.slice a2 L.length c2_)) := ⟨_, ⟨rfl⟩⟩
 rw [← hva.out, ← hvb.out]
 have H1 := Keep.mk h1
 have H2 := Keep.mk h2
 have HL := Keep.mk hl
 clear h1 h2 hl
 go_enter Try.func39, Try.ntmps39
 refine wp_seq_k fun K1 hK1 => rgn ?_
 refine WL.box (by kernel_rfl) 39 (.tmp 0) rfl (va) rfl ?_
 obtain ⟨w1, hwn⟩ : ∃ wx, Keep (wx = w.alloc (.cells (va) 39)) := ⟨_, ⟨rfl⟩⟩
 rw [← hwn.out]
 have HA1 : Keep (Blk w1 w.heap.size 39 (va)) := ⟨by rw [hwn.out]; exact Blk.new _ _ _⟩
 have U1 : Keep (Below w.heap.size w w1) := ⟨by rw [hwn.out]; exact below_new _ _⟩
 clear hwn
 simp only [Act.put, pqA, pqB, pqC]
 refine WL.box (by kernel_rfl) 39 (.tmp 1) rfl (vb) rfl ?_
 obtain ⟨w2, hwn⟩ : ∃ wx, Keep (wx = w1.alloc (.cells (vb) 39)) := ⟨_, ⟨rfl⟩⟩
 rw [← hwn.out]
 have HB2 : Keep (Blk w2 w1.heap.size 39 (vb)) := ⟨by rw [hwn.out]; exact Blk.new _ _ _⟩
 have T2 : Keep (Below w1.heap.size w1 w2) := ⟨by rw [hwn.out]; exact below_new _ _⟩
 clear hwn
 have HA2 := Keep.mk (HA1.out.below T2.out HA1.out.lt)
 have U2 := Keep.mk (belowT U1.out T2.out)
 simp only [Act.put, pqA, pqB, pqC]
 refine VlS (.bool false) ?_
 refine WL.nil (hK1 _ _ ?_)
 refine wp_seq_k fun K2 hK2 => rgn ?_
 refine VlS (.pointer (some ⟨w.heap.size, 0, none⟩)) ?_
 refine WL.midA (by kernel_rfl) 36 (.tmp 5) rfl w.heap.size 0 rfl (bytesA 32 c) _ (vtx_rng (hva.out ▸ HA2.out)) Try.underlying36 rfl (Try.size36B _) ?_
 simp only [Act.put, pqA, pqB, pqC]
 refine VlS (.pointer (some ⟨w1.heap.size, 0, none⟩)) ?_
 refine WL.midA (by kernel_rfl) 36 (.tmp 7) rfl w1.heap.size 0 rfl (bytesA 32 c) _ (vtx_rng (hvb.out ▸ HB2.out)) Try.underlying36 rfl (Try.size36B _) ?_
 simp only [Act.put, pqA, pqB, pqC]
 refine WL.val (by kernel_rfl) (.bool true) (by go_simp; rw [run_equal_arr]; rfl) ?_
 simp only [Act.put, pqA, pqB, pqC]
 refine VlS (.bool true) ?_
 refine VlS (.pointer (some ⟨w.heap.size, 32, none⟩)) ?_
 have c1 : w2.cell? ⟨w.heap.size, 32, none⟩ = some (.int .i64 k) := HA2.out.c 32 (by rw [hva.out]; exact vtx_ck _ _ _)
 refine WL.val (by kernel_rfl) (.int .i64 k) (by go_simp) ?_
 clear c1
 simp only [Act.put, pqA, pqB, pqC]
 refine VlS (.pointer (some ⟨w1.heap.size, 32, none⟩)) ?_
 have c1 : w2.cell? ⟨w1.heap.size, 32, none⟩ = some (.int .i64 k) := HB2.out.c 32 (by rw [hvb.out]; exact vtx_ck _ _ _)
 refine WL.val (by kernel_rfl) (.int .i64 k) (by go_simp) ?_
 clear c1
 simp only [Act.put, pqA, pqB, pqC]
 refine VlS (.bool true) ?_
 refine VlS (.bool true) ?_
 refine VlS (.bool true) ?_
 refine VlS (.pointer (some ⟨w.heap.size, 33, none⟩)) ?_
 have c1 : w2.cell? ⟨w.heap.size, 33, none⟩ = some (.slice a1 L.length c1_) := HA2.out.c 33 (by rw [hva.out]; exact vtx_ps _ _ _)
 refine WL.val (by kernel_rfl) (.slice a1 L.length c1_) (by go_simp) ?_
 clear c1
 simp only [Act.put, pqA, pqB, pqC]
 refine VlS (.pointer (some ⟨w1.heap.size, 33, none⟩)) ?_
 have c1 : w2.cell? ⟨w1.heap.size, 33, none⟩ = some (.slice a2 L.length c2_) := HB2.out.c 33 (by rw [hvb.out]; exact vtx_ps _ _ _)
 refine WL.val (by kernel_rfl) (.slice a2 L.length c2_) (by go_simp) ?_
 clear c1
 simp only [Act.put, pqA, pqB, pqC]
 have hcon := smH_any (.slice a1 L.length c1_) (.slice a2 L.length c2_) L L w2 (H1.out.below U2.out) (H2.out.below U2.out) HL.out
 rw [decide_eq_true rfl] at hcon
 refine WL.callF (by kernel_rfl) 19 _ _ rfl Try.in19 #[.slice a1 L.length c1_, .slice a2 L.length c2_] (by simp [Act.eval]) ?_
 refine (hcon).mono ?_
 rintro e w3 ⟨rfl, hz⟩
 refine ⟨_, rfl, ?_⟩
 clear hcon
 have U3 := Keep.mk (belowT U2.out hz)
 clear hz
 simp only [Act.put, pqA, pqB, pqC]
 refine VlS (.bool true) ?_
 refine VlS (.bool true) ?_
 refine WL.nil (hK2 _ _ ?_)
 refine wp_ret ?_
 go_ret
 exact ⟨rfl, U3.out⟩
/-! ### Next, whatever it tells. -/
def nxC (N : Option VX) : Nat → Int := match N with | none => fun _ => 0 | some v => v.id.f
def nxK (N : Option VX) : Int := match N with | none => 0 | some v => v.ck
def nxL (N : Option VX) : List Hs := match N with | none => [] | some v => v.ps
theorem nxQ_mem {l m : List VX} : ∀ (q : List Hs) {v : VX}, nxQ l m q = some v → v ∈ m
 | [], v, h => by simp [nxQ] at h
 | x :: r, v, h => by
  rw [nxQ] at h
  cases hf : m.find? (isV x) with
  | none => rw [hf] at h; exact nxQ_mem r h
  | some u =>
   rw [hf] at h
   simp only at h
   split at h
   ·exact Option.some.inj h ▸ List.mem_of_find?_eq_some hf
   ·exact nxQ_mem r h
theorem nx_of {N : Option VX} {w w' : World} {e : Ending} (h : (N = none ∧ e = .returned (.tuple #[vZ, .bool false]) ∧ Below w.heap.size w w') ∨ ∃ v, N = some v ∧ ∃ p', e = .returned (.tuple #[.agg (vtx v.id.f v.ck p'), .bool true]) ∧ Fresh w w' p' v.ps) : ∃ p', e = .returned (.tuple #[.agg (vtx (nxC N) (nxK N) p'), .bool N.isSome]) ∧ (HRow w' p' (nxL N) ∧ ∀ k, p'.ownBlock = some k → k < w'.heap.size) ∧ Below w.heap.size w w' := by
 rcases h with ⟨rfl, h2, h3⟩ | ⟨v, rfl, p', h2, h3⟩
 ·exact ⟨.slice none 0 0, h2, ⟨(ownH_nil w').row, fun k hk => by cases hk⟩, h3⟩
 ·exact ⟨p', h2, ⟨h3.own.row, h3.own.lt⟩, h3.bel⟩
theorem nxR_of {g : DG} {R : RG} {x : Nat} {hv wv sv : Value} {w w' : World} {e : Ending} (hs : Sm g R) (hI : DI g) (hR : RAt w x hv wv sv R) (h : (nxR R R.wait = none ∧ e = .returned (.tuple #[vZ, .bool false]) ∧ Below w.heap.size w w') ∨ ∃ q, nxR R R.wait = some q ∧ e = .returned (.tuple #[.agg (vtx q.1.id.f q.1.ck q.2), .bool true]) ∧ Below w.heap.size w w') : ∃ p', e = .returned (.tuple #[.agg (vtx (nxC (nxQ g.held g.wait g.queue)) (nxK (nxQ g.held g.wait g.queue)) p'), .bool (nxQ g.held g.wait g.queue).isSome]) ∧ (HRow w' p' (nxL (nxQ g.held g.wait g.queue)) ∧ ∀ k, p'.ownBlock = some k → k < w'.heap.size) ∧ Below w.heap.size w w' := by
 rw [← hs.nx hI]
 rcases h with ⟨h1, h2, h3⟩ | ⟨q, h1, h2, h3⟩
 ·rw [h1]; exact ⟨.slice none 0 0, h2, ⟨(ownH_nil w').row, fun k hk => by cases hk⟩, h3⟩
 ·rw [h1]
  obtain ⟨a1, _, a3⟩ := hR.ps q (.inr (List.mem_of_find?_eq_some h1))
  exact ⟨q.2, h2, ⟨a1.below h3, fun k hk => Nat.lt_of_lt_of_le (a3 k hk).1 h3.size⟩, h3⟩
set_option maxRecDepth 8000 in
set_option maxHeartbeats 4000000 in
theorem an_next (B : Nat) (Ps : List PQ) (i : Nat) (p : PQ) (o : OP) (w : World) (hA : AQ B w Ps) (hi : Ps[i]? = some p) (hB : B ≤ w.heap.size) (hr : HRow w o.q.2 o.q.1.ps) (hL : (o.q.1.ps.length : Int) ≤ 9223372036854775806) (hK' : o.q.1.ps ≠ [] → ∀ k, o.q.2.ownBlock = some k → k < B) (hk : o.k = 3) : Calls Try.prog 13 #[ptr p.d, ptr p.x, .agg (opA o)] w (AnP B Ps i p w) := by
 obtain ⟨d, x, g, hv, wv, sv, R⟩ := p
 have hp : (⟨d, x, g, hv, wv, sv, R⟩ : PQ) ∈ Ps := List.mem_iff_getElem?.2 ⟨i, hi⟩
 have DG : Keep (DagAt w (UQ Ps) d g) := ⟨hA.1.dg _ hp⟩
 have RA_ : Keep (RAt w x hv wv sv R) := ⟨hA.1.rg _ hp⟩
 have RD : Keep (RRd w x R) := ⟨RA_.out.rd⟩
 have HI : Keep (DI g) := ⟨(hA.2 _ hp).1⟩
 have RI_ : Keep (RI R) := ⟨(hA.2 _ hp).2.1⟩
 have SM : Keep (Sm g R) := ⟨(hA.2 _ hp).2.2⟩
 have HAq := Keep.mk hA
 have HRq := Keep.mk hr
 have HLq := Keep.mk hL
 have HKq := Keep.mk hK'
 clear hA hr hL hK'
 obtain ⟨oo, HOo⟩ : ∃ a : Array Value, Keep (a = opA o) := ⟨_, ⟨rfl⟩⟩
 obtain ⟨vv, hvv⟩ : ∃ a : Array Value, Keep (a = vtx o.q.1.id.f o.q.1.ck o.q.2) := ⟨_, ⟨rfl⟩⟩
 rw [← HOo.out]
 show Calls Try.prog 13 #[ptr d, ptr x, .agg oo] w _
 have hk := Keep.mk hk
 obtain ⟨vz, hvz⟩ : ∃ a : Array Value, Keep (a = vtx (fun _ => 0) 0 (.slice none 0 0)) := ⟨_, ⟨rfl⟩⟩
 obtain ⟨N, HN⟩ : ∃ N, Keep (N = nxQ g.held g.wait g.queue) := ⟨_, ⟨rfl⟩⟩
 obtain ⟨bN, hbN⟩ : ∃ b, Keep (N.isSome = b) := ⟨_, ⟨rfl⟩⟩
 have HNl : Keep (((nxL N).length : Int) ≤ 9223372036854775807) := ⟨by
  rw [HN.out]; unfold nxL
  cases h : nxQ g.held g.wait g.queue with
  | none => simp
  | some v => have := chk_ok (HI.out.wc v (nxQ_mem _ h)); simp only; omega⟩
 go_enter Try.func13, Try.ntmps13
 refine wp_seq_k fun K1 hK1 => rgn ?_
 refine WL.box (by kernel_rfl) 41 (.tmp 2) rfl (oo) rfl ?_
 obtain ⟨w1, hwn⟩ : ∃ wx, Keep (wx = w.alloc (.cells (oo) 41)) := ⟨_, ⟨rfl⟩⟩
 rw [← hwn.out]
 have HX1 : Keep (Blk w1 w.heap.size 41 (oo)) := ⟨by rw [hwn.out]; exact Blk.new _ _ _⟩
 have U1 : Keep (Below w.heap.size w w1) := ⟨by rw [hwn.out]; exact below_new _ _⟩
 clear hwn
 have HRo : Keep (∀ wx, Below w1.heap.size w1 wx → wx.rangeAt w.heap.size 0 (opA o).toList) := ⟨fun wx hb => by have h := blk_rng (HX1.out.below hb HX1.out.lt); rw [HOo.out] at h; exact h⟩
 have HRh : Keep (∀ wx, Below w1.heap.size w1 wx → wx.rangeAt w.heap.size 36 (encH o.h)) := ⟨fun wx hb => opA_h (HRo.out wx hb)⟩
 have HRv : Keep (∀ wx, Below w1.heap.size w1 wx → wx.rangeAt w.heap.size 2 vv.toList) := ⟨fun wx hb => by rw [hvv.out]; exact opA_v (HRo.out wx hb)⟩
 have V1 : Keep (Below w1.heap.size w1 w1) := ⟨Below.refl _ _⟩
 simp only [Act.put, pqA, pqB, pqC]
 refine VlS (.bool false) ?_
 refine WL.nil (hK1 _ _ ?_)
 refine wp_seq_k fun K2 hK2 => ?_
 refine wp_seq_k fun K3 hK3 => rgn ?_
 refine VlS (.pointer (some ⟨w.heap.size, 0, none⟩)) ?_
 have ck0 : w1.cell? ⟨w.heap.size, 0, none⟩ = some (.int .i64 (3)) := by have h := opA_k (HRo.out w1 V1.out); rw [hk.out] at h; exact h
 refine WL.val (by kernel_rfl) (.int .i64 (3)) (by go_simp) ?_
 clear ck0
 simp only [Act.put, pqA, pqB, pqC]
 refine WL.nil (hK3 _ _ ?_)
 refine wp_block ?_
 refine wp_seq_k fun K4 hK4 => rgn ?_
 refine VlS (.bool false) ?_
 refine VlS (.bool false) ?_
 refine WL.nil (hK4 _ _ ?_)
 refine wp_cond_false rfl ?_
 refine wp_seq_k fun K5 hK5 => rgn ?_
 refine VlS (.bool false) ?_
 refine VlS (.bool false) ?_
 refine WL.nil (hK5 _ _ ?_)
 refine wp_cond_false rfl ?_
 refine wp_seq_k fun K6 hK6 => rgn ?_
 refine VlS (.bool true) ?_
 refine VlS (.bool true) ?_
 refine WL.nil (hK6 _ _ ?_)
 refine wp_cond_true rfl ?_
 refine wp_seq_k fun K7 hK7 => rgn ?_
 refine VlS (.pointer (some ⟨d, 0, none⟩)) ?_
 have hcon := (nextV_any d _ g w1 (DG.out.below U1.out) (fun z hz => by rw [HI.out.q] at hz; obtain ⟨v, hv, rfl⟩ := List.mem_map.1 hz; exact ⟨v, find_mem HI.out.wn hv⟩) (fun v hv => by have := chk_ok (HI.out.wc v hv); omega) (by have := HI.out.qlen; have := HI.out.wl; omega)).mono fun e w' h => nx_of h
 rw [← HN.out] at hcon
 refine WL.callF (by kernel_rfl) 35 _ _ rfl Try.in35 #[ptr d] (by simp [Act.eval]) ?_
 refine (hcon).mono ?_
 rintro e w2 ⟨p2, rfl, ⟨hr2, hn2⟩, hb2⟩
 refine ⟨_, rfl, ?_⟩
 clear hcon
 have V2 := Keep.mk (belowT V1.out hb2)
 have U2 := Keep.mk (belowT U1.out hb2)
 have R2 := Keep.mk hr2
 have NP2 : Keep (∀ k, p2.ownBlock = some k → k < w2.heap.size) := ⟨hn2⟩
 clear hn2
 clear hr2 hb2
 obtain ⟨va, hva⟩ : ∃ a : Array Value, Keep (a = vtx (nxC N) (nxK N) p2) := ⟨_, ⟨rfl⟩⟩
 rw [← hva.out, hbN.out]
 obtain ⟨pa, pc, hpf⟩ := R2.out.form
 have Hpf := Keep.mk hpf
 clear hpf
 simp only [Act.put, pqA, pqB, pqC]
 refine VlS (.tuple #[.agg va, .bool bN]) ?_
 refine VlS (.agg va) ?_
 refine VlS (.bool bN) ?_
 refine WL.new (by kernel_rfl) 39 rfl _ Try.new39 ?_
 rw [← hvz.out]
 have HX3 := Keep.mk (Blk.new w2 39 vz)
 have hz := below_new w2 (.cells vz 39)
 have V3 := Keep.mk (belowT V2.out hz)
 have U3 := Keep.mk (belowT U2.out hz)
 have R3 := Keep.mk (R2.out.below hz)
 have W23 : Keep (w2.heap.size ≤ (w2.alloc (.cells vz 39)).heap.size) := ⟨hz.size⟩
 clear hz
 generalize w2.alloc (.cells vz 39) = w3 at *
 obtain ⟨gx, hgx⟩ : ∃ n, Keep (n = w2.heap.size) := ⟨_, ⟨rfl⟩⟩
 rw [← hgx.out] at HX3 ⊢
 simp only [Act.put, pqA, pqB, pqC]
 refine WL.storeR (by kernel_rfl) 39 (.tmp 19) (.tmp 113) rfl gx va rfl rfl 39 vz HX3.out (by rw [hva.out]; exact Try.info39s _ _ _) (by rw [hva.out, hvz.out, vtx_size, vtx_size]) (by rw [hva.out, Hpf.out]; exact vtx_one _ _ _ (slice_one _ _ _)) ?_
 have HA4 := Keep.mk (HX3.out.setRow va)
 have V4 := Keep.mk (below_setRow V3.out (show w1.heap.size ≤ gx by rw [hgx.out]; exact V2.out.size) va)
 have U4 := Keep.mk (below_setRow U3.out (show w.heap.size ≤ gx by rw [hgx.out]; exact U2.out.size) va)
 have R4 := Keep.mk (R3.out.grownB (Grown.setRow w3 gx va (S := fun k => k = gx) fun _ => rfl) fun k hk e => by have := NP2.out k hk; have := hgx.out; omega)
 have W24 : Keep (w2.heap.size ≤ (w3.setRow gx va).heap.size) := ⟨Nat.le_trans W23.out (Grown.setRow w3 gx va (S := fun k => k = gx) fun _ => rfl).size⟩
 generalize w3.setRow gx va = w4 at *
 simp only [Act.put]
 refine VlS (.bool bN) ?_
 refine WL.nil (hK7 _ _ ?_)
 refine wp_seq_k fun K8 hK8 => rgn ?_
 refine VlS (.pointer (some ⟨x, 0, none⟩)) ?_
 have hcon := (rnext_any x R w4 (RD.out.below U4.out) RI_.out).mono fun e w' h => nxR_of SM.out HI.out (RA_.out.below U4.out) h
 rw [← HN.out] at hcon
 refine WL.callF (by kernel_rfl) 38 _ _ rfl Try.in38 #[ptr x] (by simp [Act.eval]) ?_
 refine (hcon).mono ?_
 rintro e w5 ⟨p5, rfl, ⟨hr5, hn5⟩, hb5⟩
 refine ⟨_, rfl, ?_⟩
 clear hcon
 have V5 := Keep.mk (belowT V4.out hb5)
 have U5 := Keep.mk (belowT U4.out hb5)
 have R5 := Keep.mk hr5
 have NP5 : Keep (∀ k, p5.ownBlock = some k → k < w5.heap.size) := ⟨hn5⟩
 have NP4 : Keep (∀ k, p2.ownBlock = some k → k < w5.heap.size) := ⟨fun k hk => Nat.lt_of_lt_of_le (NP2.out k hk) (Nat.le_trans W24.out hb5.size)⟩
 clear hn5
 have HA5 := Keep.mk (HA4.out.below hb5 HA4.out.lt)
 have R45 := Keep.mk (R4.out.below hb5)
 clear hr5 hb5
 obtain ⟨vb, hvb⟩ : ∃ a : Array Value, Keep (a = vtx (nxC N) (nxK N) p5) := ⟨_, ⟨rfl⟩⟩
 rw [← hvb.out, hbN.out]
 obtain ⟨pd, pe, hpf⟩ := R5.out.form
 have Hpg := Keep.mk hpf
 clear hpf
 simp only [Act.put, pqA, pqB, pqC]
 refine VlS (.tuple #[.agg vb, .bool bN]) ?_
 refine VlS (.agg vb) ?_
 refine VlS (.bool bN) ?_
 refine WL.new (by kernel_rfl) 39 rfl _ Try.new39 ?_
 rw [← hvz.out]
 have HY6 := Keep.mk (Blk.new w5 39 vz)
 have hz := below_new w5 (.cells vz 39)
 have V6 := Keep.mk (belowT V5.out hz)
 have U6 := Keep.mk (belowT U5.out hz)
 have R6 := Keep.mk (R5.out.below hz)
 have HA6 := Keep.mk (HA5.out.below hz HA5.out.lt)
 have R46 := Keep.mk (R45.out.below hz)
 have GA5 : Keep (gx < w5.heap.size) := ⟨HA5.out.lt⟩
 clear hz
 generalize w5.alloc (.cells vz 39) = w6 at *
 obtain ⟨gy, hgy⟩ : ∃ n, Keep (n = w5.heap.size) := ⟨_, ⟨rfl⟩⟩
 rw [← hgy.out] at HY6 ⊢
 simp only [Act.put, pqA, pqB, pqC]
 refine WL.storeR (by kernel_rfl) 39 (.tmp 21) (.tmp 118) rfl gy vb rfl rfl 39 vz HY6.out (by rw [hvb.out]; exact Try.info39s _ _ _) (by rw [hvb.out, hvz.out, vtx_size, vtx_size]) (by rw [hvb.out, Hpg.out]; exact vtx_one _ _ _ (slice_one _ _ _)) ?_
 have HB7 := Keep.mk (HY6.out.setRow vb)
 have HA7 := Keep.mk (HA6.out.setRow_ne (b' := gy) (by have := GA5.out; have := hgy.out; omega) vb)
 have U7 := Keep.mk (below_setRow U6.out (show w.heap.size ≤ gy by rw [hgy.out]; exact U5.out.size) vb)
 have hgr : Grown w6 (w6.setRow gy vb) fun k => k = gy := Grown.setRow w6 gy vb fun _ => rfl
 have R47 := Keep.mk (R46.out.grownB hgr fun k hk e => by have := NP4.out k hk; have := hgy.out; omega)
 have R7 := Keep.mk (R6.out.grownB hgr fun k hk e => by have := NP5.out k hk; have := hgy.out; omega)
 clear hgr
 generalize w6.setRow gy vb = w7 at *
 simp only [Act.put]
 refine VlS (.bool bN) ?_
 refine WL.nil (hK8 _ _ ?_)
 refine wp_seq_k fun K9 hK9 => rgn ?_
 refine WL.row (by kernel_rfl) 39 (.tmp 19) rfl gx rfl 39 va _ HA7.out Try.underlying39 rfl (by rw [hva.out]; exact Try.info39s _ _ _) ?_
 simp only [Act.put, pqA, pqB, pqC]
 refine WL.row (by kernel_rfl) 39 (.tmp 21) rfl gy rfl 39 vb _ HB7.out Try.underlying39 rfl (by rw [hvb.out]; exact Try.info39s _ _ _) ?_
 simp only [Act.put, pqA, pqB, pqC]
 have hcon := sameV_any (nxC N) (nxK N) p2 p5 (nxL N) w7 R47.out R7.out HNl.out
 rw [← hva.out, ← hvb.out] at hcon
 refine WL.callF (by kernel_rfl) 39 _ _ rfl Try.in39 #[.agg va, .agg vb] (by simp [Act.eval]) ?_
 refine (hcon).mono ?_
 rintro e w8 ⟨rfl, hz⟩
 refine ⟨_, rfl, ?_⟩
 clear hcon
 have U8 := Keep.mk (belowT U7.out hz)
 clear hz
 simp only [Act.put, pqA, pqB, pqC]
 refine VlS (.bool true) ?_
 refine VlS (.bool bN) ?_
 refine VlS (.bool bN) ?_
 refine VlS (.bool true) ?_
 refine VlS (.bool true) ?_
 refine VlS (.bool true) ?_
 refine WL.nil (hK9 _ _ ?_)
 refine wp_ret ?_
 go_ret
 exact ⟨rfl, U8.out.mono hB, Grown.below U8.out, _, rfl, rfl, (HAq.out.below U8.out).self hi, uq_sub hi fun k hk => .inl hk⟩
end Go.Proofs.Ytogmdfhicbmplaa
namespace Go.Proofs.Ytogmdfhicbmplaa
open Go.RowKit
set_option linter.unusedSimpArgs false
set_option linter.unusedVariables false

set_option maxRecDepth 8000 in
set_option maxHeartbeats 4000000 in
theorem an_add (B : Nat) (Ps : List PQ) (i : Nat) (p : PQ) (o : OP) (w : World) (hA : AQ B w Ps) (hi : Ps[i]? = some p) (hB : B ≤ w.heap.size) (hr : HRow w o.q.2 o.q.1.ps) (hL : (o.q.1.ps.length : Int) ≤ 9223372036854775806) (hK' : o.q.1.ps ≠ [] → ∀ k, o.q.2.ownBlock = some k → k < B) (hLp : o.q.1.ps.length ≤ 4398046511104) (hk : o.k = 1) : Calls Try.prog 13 #[ptr p.d, ptr p.x, .agg (opA o)] w (AnP B Ps i p w) := by
 obtain ⟨d, x, g, hv, wv, sv, R⟩ := p
 have hp : (⟨d, x, g, hv, wv, sv, R⟩ : PQ) ∈ Ps := List.mem_iff_getElem?.2 ⟨i, hi⟩
 have DG : Keep (DagAt w (UQ Ps) d g) := ⟨hA.1.dg _ hp⟩
 have RA_ : Keep (RAt w x hv wv sv R) := ⟨hA.1.rg _ hp⟩
 have RD : Keep (RRd w x R) := ⟨RA_.out.rd⟩
 have HI : Keep (DI g) := ⟨(hA.2 _ hp).1⟩
 have RI_ : Keep (RI R) := ⟨(hA.2 _ hp).2.1⟩
 have SM : Keep (Sm g R) := ⟨(hA.2 _ hp).2.2⟩
 have HAq := Keep.mk hA
 have HRq := Keep.mk hr
 have HLq := Keep.mk hL
 have HKq := Keep.mk hK'
 clear hA hr hL hK'
 obtain ⟨oo, HOo⟩ : ∃ a : Array Value, Keep (a = opA o) := ⟨_, ⟨rfl⟩⟩
 obtain ⟨vv, hvv⟩ : ∃ a : Array Value, Keep (a = vtx o.q.1.id.f o.q.1.ck o.q.2) := ⟨_, ⟨rfl⟩⟩
 rw [← HOo.out]
 show Calls Try.prog 13 #[ptr d, ptr x, .agg oo] w _
 have hk := Keep.mk hk
 obtain ⟨hw, ee, hfe⟩ : ∃ a b, Keep (fitV g.held g.wait o.q.1 = (a, b)) := ⟨_, _, ⟨rfl⟩⟩
 obtain ⟨vz, hvz⟩ : ∃ a : Array Value, Keep (a = vtx (fun _ => 0) 0 (.slice none 0 0)) := ⟨_, ⟨rfl⟩⟩
 obtain ⟨n, Hn⟩ : ∃ n, Keep (o.q.1.ps.length = n) := ⟨_, ⟨rfl⟩⟩
 obtain ⟨qa, qc, hqf⟩ := HRq.out.form
 rw [Hn.out] at hqf
 have Hqf := Keep.mk hqf
 clear hqf
 have HLp : Keep (o.q.1.ps.length ≤ 4398046511104) := ⟨hLp⟩
 go_enter Try.func13, Try.ntmps13
 refine wp_seq_k fun K1 hK1 => rgn ?_
 refine WL.box (by kernel_rfl) 41 (.tmp 2) rfl (oo) rfl ?_
 obtain ⟨w1, hwn⟩ : ∃ wx, Keep (wx = w.alloc (.cells (oo) 41)) := ⟨_, ⟨rfl⟩⟩
 rw [← hwn.out]
 have HX1 : Keep (Blk w1 w.heap.size 41 (oo)) := ⟨by rw [hwn.out]; exact Blk.new _ _ _⟩
 have U1 : Keep (Below w.heap.size w w1) := ⟨by rw [hwn.out]; exact below_new _ _⟩
 clear hwn
 have HRo : Keep (∀ wx, Below w1.heap.size w1 wx → wx.rangeAt w.heap.size 0 (opA o).toList) := ⟨fun wx hb => by have h := blk_rng (HX1.out.below hb HX1.out.lt); rw [HOo.out] at h; exact h⟩
 have HRh : Keep (∀ wx, Below w1.heap.size w1 wx → wx.rangeAt w.heap.size 36 (encH o.h)) := ⟨fun wx hb => opA_h (HRo.out wx hb)⟩
 have HRv : Keep (∀ wx, Below w1.heap.size w1 wx → wx.rangeAt w.heap.size 2 vv.toList) := ⟨fun wx hb => by rw [hvv.out]; exact opA_v (HRo.out wx hb)⟩
 have V1 : Keep (Below w1.heap.size w1 w1) := ⟨Below.refl _ _⟩
 simp only [Act.put, pqA, pqB, pqC]
 refine VlS (.bool false) ?_
 refine WL.nil (hK1 _ _ ?_)
 refine wp_seq_k fun K2 hK2 => ?_
 refine wp_seq_k fun K3 hK3 => rgn ?_
 refine VlS (.pointer (some ⟨w.heap.size, 0, none⟩)) ?_
 have ck0 : w1.cell? ⟨w.heap.size, 0, none⟩ = some (.int .i64 (1)) := by have h := opA_k (HRo.out w1 V1.out); rw [hk.out] at h; exact h
 refine WL.val (by kernel_rfl) (.int .i64 (1)) (by go_simp) ?_
 clear ck0
 simp only [Act.put, pqA, pqB, pqC]
 refine WL.nil (hK3 _ _ ?_)
 refine wp_block ?_
 refine wp_seq_k fun K4 hK4 => rgn ?_
 refine VlS (.bool true) ?_
 refine VlS (.bool true) ?_
 refine WL.nil (hK4 _ _ ?_)
 refine wp_cond_true rfl ?_
 refine wp_seq_k fun K5 hK5 => rgn ?_
 refine VlS (.pointer (some ⟨w.heap.size, 2, none⟩)) ?_
 refine WL.midA (by kernel_rfl) 39 (.tmp 35) rfl w.heap.size 2 rfl vv _ (HRv.out _ V1.out) Try.underlying39 rfl (by rw [hvv.out]; exact Try.info39s _ _ _) ?_
 simp only [Act.put, pqA, pqB, pqC]
 refine WL.new (by kernel_rfl) 39 rfl _ Try.new39 ?_
 rw [← hvz.out]
 have HZ := Keep.mk (Blk.new w1 39 vz)
 have hz := below_new w1 (.cells vz 39)
 have V2 := Keep.mk (belowT V1.out hz)
 have U2 := Keep.mk (belowT U1.out hz)
 clear hz
 generalize w1.alloc (.cells vz 39) = w2 at *
 obtain ⟨gz, hgz⟩ : ∃ n, Keep (n = w1.heap.size) := ⟨_, ⟨rfl⟩⟩
 rw [← hgz.out] at HZ ⊢
 have LZ : Keep (w.heap.size < gz) := ⟨by rw [hgz.out]; exact HX1.out.lt⟩
 simp only [Act.put, pqA, pqB, pqC]
 refine WL.storeR (by kernel_rfl) 39 (.tmp 7) (.tmp 36) rfl gz vv rfl rfl 39 vz HZ.out (by rw [hvv.out]; exact Try.info39s _ _ _) (by rw [hvv.out, hvz.out, vtx_size, vtx_size]) (by rw [hvv.out, Hqf.out]; exact vtx_one _ _ _ (slice_one _ _ _)) ?_
 have HV3 := Keep.mk (HZ.out.setRow vv)
 have V3 := Keep.mk (below_setRow V2.out (show w1.heap.size ≤ gz by rw [hgz.out]; exact Nat.le_refl _) vv)
 have U3 := Keep.mk (below_setRow U2.out (show w.heap.size ≤ gz by have := LZ.out; omega) vv)
 generalize w2.setRow gz vv = w3 at *
 simp only [Act.put]
 refine WL.nil (hK5 _ _ ?_)
 refine wp_seq_k fun K6 hK6 => rgn ?_
 refine VlS (.pointer (some ⟨w.heap.size, 2, none⟩)) ?_
 refine VlS (.pointer (some ⟨w.heap.size, 35, none⟩)) ?_
 have c35 : w3.cell? ⟨w.heap.size, 35, none⟩ = some (.slice qa n qc) := by have h := HRv.out w3 V3.out 33 o.q.2 (by rw [hvv.out, Array.getElem?_toList]; exact vtx_ps _ _ _); rw [Hqf.out] at h; exact h
 refine WL.val (by kernel_rfl) (.slice qa n qc) (by go_simp) ?_
 clear c35
 simp only [Act.put, pqA, pqB, pqC]
 have hrq : HRow w3 (.slice qa n qc) o.q.1.ps := by rw [← Hqf.out]; exact HRq.out.below U3.out
 refine WL.appL (by kernel_rfl) (.const (.slice none 0 0)) (.tmp 39) rfl w3.heap.size (.slice none 0 0) (.slice qa n qc) [] o.q.1.ps rfl rfl (ownsH_nil _ _) hrq (by have := HLp.out; simp; omega) (Nat.le_refl _) fun v4 w4 h1 h2 => ?_
 clear hrq
 rw [List.nil_append] at h1
 have hz : Below w3.heap.size w3 w4 := belowG (Below.refl _ _) h2 (Nat.le_refl _) fun k e => by cases e
 have O4 := Keep.mk (OwnH.of h1)
 have N4 : Keep (∀ k, v4.ownBlock = some k → w3.heap.size ≤ k) := ⟨fun k hk => (World.ownsRow.lt h1 k hk).1⟩
 have HV4 := Keep.mk (HV3.out.below hz HV3.out.lt)
 have L34 : Keep (gz < w3.heap.size) := ⟨HV3.out.lt⟩
 have V4 := Keep.mk (belowT V3.out hz)
 have U4 := Keep.mk (belowT U3.out hz)
 clear h1 h2 hz
 obtain ⟨ra, rc, e4⟩ := O4.out.sl
 rw [Hn.out] at e4
 subst e4
 simp only [Act.put, pqA, pqB, pqC]
 refine VlS (.pointer (some ⟨gz, 33, none⟩)) ?_
 have f_o := HV4.out.frozen 33
 have c_o : w4.cell? ⟨gz, 33, none⟩ = some (.slice qa n qc) := by have h := HV4.out.c 33 (show vv[33]? = some o.q.2 by rw [hvv.out]; exact vtx_ps _ _ _); rw [Hqf.out] at h; exact h
 refine WL.cell (by kernel_rfl) (w4.setCell ⟨gz, 33, none⟩ (.slice ra n rc)) (by go_simp) ?_
 clear f_o c_o
 obtain ⟨vw, hvw⟩ : ∃ a : Array Value, Keep (a = vtx o.q.1.id.f o.q.1.ck (.slice ra n rc)) := ⟨_, ⟨rfl⟩⟩
 have hg5 : Grown w4 (w4.setCell ⟨gz, 33, none⟩ (.slice ra n rc)) fun k => k = gz := Grown.setCell _ _ _ _ fun _ => rfl
 have HV5 : Keep (Blk (w4.setCell ⟨gz, 33, none⟩ (.slice ra n rc)) gz 39 vw) := ⟨by have h := HV4.out.set 33 (.slice ra n rc); rw [hvv.out, vtx_set, ← hvw.out] at h; exact h⟩
 have O5 := Keep.mk (O4.out.grown hg5 fun k hk e => by have := N4.out k hk; have := L34.out; omega)
 have U5 := Keep.mk (U4.out.trans (hg5.to_below (fun k hk e => by have := LZ.out; omega) U4.out.size))
 have V5 := Keep.mk (V4.out.trans (hg5.to_below (fun k hk e => by have := hgz.out; omega) V4.out.size))
 clear hg5 HV4 HV3 O4
 generalize w4.setCell ⟨gz, 33, none⟩ (.slice ra n rc) = w5 at *
 have L35 : Keep (w.heap.size ≤ w3.heap.size) := ⟨U3.out.size⟩
 have DG5 : Keep (DagAt w5 (fun k => UQ Ps k ∨ (Value.slice ra n rc).ownBlock = some k) d g) := ⟨DG.out.grown (Grown.below (S := fun _ => False) U5.out) (fun _ e => e.elim) (fun _ _ e => e.elim) (fun k hk e => e.elim id fun e => by have := N4.out k e; have := L35.out; omega) (fun k hk => .inl (DG.out.av k hk)) fun k hk => hk.elim (fun h => Nat.lt_of_lt_of_le (DG.out.lt k h) U5.out.size) (O5.out.lt k)⟩
 simp only [Act.put]
 refine WL.nil (hK6 _ _ ?_)
 refine wp_seq_k fun K7 hK7 => rgn ?_
 refine VlS (.pointer (some ⟨d, 0, none⟩)) ?_
 refine WL.row (by kernel_rfl) 39 (.tmp 7) rfl gz rfl 39 vw _ HV5.out Try.underlying39 rfl (by rw [hvw.out]; exact Try.info39s _ _ _) ?_
 simp only [Act.put, pqA, pqB, pqC]
 have hcon := add_any d o.q.1 (.slice ra n rc) _ g w5 DG5.out HI.out O5.out.row HLq.out
 rw [← hvw.out, hfe.out] at hcon
 refine WL.callF (by kernel_rfl) 17 _ _ rfl Try.in17 #[ptr d, .agg vw] (by simp [Act.eval]) ?_
 refine (hcon).mono ?_
 rintro e w6 ⟨u6, g6, ol, rfl, hst, hdi, hag, hou, hun⟩
 refine ⟨_, rfl, ?_⟩
 clear hcon
 have S6 := Keep.mk hst
 have I6 := Keep.mk hdi
 have A6 := Keep.mk hag
 have O6 := Keep.mk hou
 have N6 := Keep.mk hun
 have HDl : Keep (∀ k, DgS d g k → k < w.heap.size) := ⟨fun k hk => DG.out.lt k (DG.out.av k hk)⟩
 have HV6 := Keep.mk (hst.grown.blk HV5.out fun e => by have := HDl.out _ e; have := LZ.out; omega)
 have X6 : Keep (OwnX w6 (.slice ra n rc) n) := ⟨by have h := (O5.out.x).grown hst.grown fun k hk e => (by have := HDl.out _ e; have := N4.out k hk; have := L35.out; omega); rw [Hn.out] at h; exact h⟩
 clear hst hdi hag hou hun
 obtain ⟨ua, uc, rfl⟩ := O6.out.sl
 simp only [Act.put, pqA, pqB, pqC]
 refine VlS (.tuple #[.int .i64 hw, .slice ua ol.length uc, .int .i64 ee]) ?_
 refine VlS (.int .i64 hw) ?_
 refine VlS (.slice ua ol.length uc) ?_
 refine VlS (.int .i64 ee) ?_
 refine VlS (.int .i64 hw) ?_
 refine VlS (.slice ua ol.length uc) ?_
 refine VlS (.int .i64 ee) ?_
 refine WL.nil (hK7 _ _ ?_)
 refine wp_seq_k fun K8 hK8 => ?_
 refine wp_seq_k fun K9 hK9 => rgn ?_
 refine VlS (.int .i64 0) ?_
 refine WL.nil (hK9 _ _ ?_)
 refine wp_block ?_
 refine wp_loop (fun ac wi => ∃ (k : Nat) (f : Nat → Value), ac = { tmps := #[.pointer (some ⟨d, 0, none⟩), .pointer (some ⟨x, 0, none⟩), .agg oo, undef, undef, .pointer (some ⟨w.heap.size, 0, none⟩), .bool false, .pointer (some ⟨gz, 0, none⟩), .int .i64 hw, .slice ua ol.length uc, .int .i64 ee, .int .i64 (k : Int), undef, undef, undef, undef, undef, undef, undef, undef, undef, undef, undef, undef, undef, undef, undef, undef, undef, undef, undef, .pointer (some ⟨w.heap.size, 0, none⟩), .int .i64 (1), .bool true, .bool true, .pointer (some ⟨w.heap.size, 2, none⟩), .agg vv, .pointer (some ⟨w.heap.size, 2, none⟩), .pointer (some ⟨w.heap.size, 35, none⟩), .slice qa n qc, .slice ra n rc, .pointer (some ⟨gz, 33, none⟩), .tuple #[.int .i64 hw, .slice ua ol.length uc, .int .i64 ee], .pointer (some ⟨d, 0, none⟩), .agg vw, .tuple #[.int .i64 hw, .slice ua ol.length uc, .int .i64 ee], .int .i64 hw, .slice ua ol.length uc, .int .i64 ee, f 49, f 50, f 51, f 52, f 53, f 54, f 55, f 56, f 57, f 58, f 59, f 60, f 61, f 62, undef, undef, undef, undef, undef, undef, undef, undef, undef, undef, undef, undef, undef, undef, undef, undef, undef, undef, undef, undef, undef, undef, undef, undef, undef, undef, undef, undef, undef, undef, undef, undef, undef, undef, undef, undef, undef, undef, undef, undef, undef, undef, undef, undef, undef, undef, undef, undef, undef, undef, undef, undef, undef, undef, undef, undef, undef, undef, undef, undef, undef, undef, undef, undef, undef, undef, undef, undef, undef, undef, undef, undef, undef, undef, undef, undef, undef, undef, undef, undef, undef, undef, undef, undef, undef, undef, undef, undef, undef, undef, undef, undef, undef, undef, undef, undef, undef, undef, undef, undef, undef, undef, undef, undef, undef, undef, undef, undef, undef, undef, undef, undef, undef, undef, undef, undef, undef, undef, undef, undef, undef, undef, undef, undef, undef, undef, undef, undef, undef, undef, undef, undef, undef, undef, undef, undef, undef, undef, undef, undef, undef, undef, undef, undef, undef, undef, undef, undef, undef, undef, undef, undef, undef, undef, undef, undef, undef, undef, undef, undef, undef, undef, undef, undef, undef, undef, undef, undef, undef, undef, undef, undef, undef, undef, undef, undef, undef, undef, undef, undef, undef, undef, undef, undef, undef, undef, undef, undef, undef, undef, undef, undef, undef, undef, undef, undef, undef, undef, undef, undef, undef, undef, undef, undef], defers := [] } ∧ k ≤ n ∧ OwnX wi (.slice ra n rc) n ∧ Blk wi gz 39 vw ∧ Grown w6 wi (fun q => (Value.slice ra n rc).ownBlock = some q)) (fun a _ => n - (intOf (a.tmps.getD 11 undef)).toNat) ⟨0, fun i => [.pointer (some ⟨d, 0, none⟩), .pointer (some ⟨x, 0, none⟩), .agg oo, undef, undef, .pointer (some ⟨w.heap.size, 0, none⟩), .bool false, .pointer (some ⟨gz, 0, none⟩), .int .i64 hw, .slice ua ol.length uc, .int .i64 ee, .int .i64 0, undef, undef, undef, undef, undef, undef, undef, undef, undef, undef, undef, undef, undef, undef, undef, undef, undef, undef, undef, .pointer (some ⟨w.heap.size, 0, none⟩), .int .i64 (1), .bool true, .bool true, .pointer (some ⟨w.heap.size, 2, none⟩), .agg vv, .pointer (some ⟨w.heap.size, 2, none⟩), .pointer (some ⟨w.heap.size, 35, none⟩), .slice qa n qc, .slice ra n rc, .pointer (some ⟨gz, 33, none⟩), .tuple #[.int .i64 hw, .slice ua ol.length uc, .int .i64 ee], .pointer (some ⟨d, 0, none⟩), .agg vw, .tuple #[.int .i64 hw, .slice ua ol.length uc, .int .i64 ee], .int .i64 hw, .slice ua ol.length uc, .int .i64 ee, undef, undef, undef, undef, undef, undef, undef, undef, undef, undef, undef, undef, undef, undef, undef, undef, undef, undef, undef, undef, undef, undef, undef, undef, undef, undef, undef, undef, undef, undef, undef, undef, undef, undef, undef, undef, undef, undef, undef, undef, undef, undef, undef, undef, undef, undef, undef, undef, undef, undef, undef, undef, undef, undef, undef, undef, undef, undef, undef, undef, undef, undef, undef, undef, undef, undef, undef, undef, undef, undef, undef, undef, undef, undef, undef, undef, undef, undef, undef, undef, undef, undef, undef, undef, undef, undef, undef, undef, undef, undef, undef, undef, undef, undef, undef, undef, undef, undef, undef, undef, undef, undef, undef, undef, undef, undef, undef, undef, undef, undef, undef, undef, undef, undef, undef, undef, undef, undef, undef, undef, undef, undef, undef, undef, undef, undef, undef, undef, undef, undef, undef, undef, undef, undef, undef, undef, undef, undef, undef, undef, undef, undef, undef, undef, undef, undef, undef, undef, undef, undef, undef, undef, undef, undef, undef, undef, undef, undef, undef, undef, undef, undef, undef, undef, undef, undef, undef, undef, undef, undef, undef, undef, undef, undef, undef, undef, undef, undef, undef, undef, undef, undef, undef, undef, undef, undef, undef, undef, undef, undef, undef, undef, undef, undef, undef, undef, undef, undef, undef, undef, undef, undef, undef, undef, undef, undef, undef, undef, undef, undef, undef, undef, undef, undef, undef, undef, undef, undef].getD i undef, rfl, by omega, X6.out, HV6.out, Grown.refl _ _⟩ ?_
 rintro ac wi ⟨k, f, rfl, ht, hO, hV, hG⟩
 have KO := Keep.mk hO
 have KV := Keep.mk hV
 have KG := Keep.mk hG
 clear hO hV hG
 by_cases hkl : k < n
 ·have hkl' : (k : Int) < (n : Int) := by omega
  have hk0' : (0 : Int) ≤ (k : Int) := by omega
  have hwk : IntKind.i64.wrap ((k : Int) + 1) = ((k + 1 : Nat) : Int) := by rw [IntKind.wrap_i64]; have := HLp.out; have := Hn.out; omega
  obtain ⟨b60, hb60⟩ : ∃ b, IntKind.u8.wrap (k : Int) = b := ⟨_, rfl⟩
  obtain ⟨cc, hcc⟩ : ∃ a : Array Value, Keep (a = bytesA 32 (upd (fun _ => 0) 9 b60)) := ⟨_, ⟨rfl⟩⟩
  obtain ⟨ga, cur, hga, -, hcb, hcc2, hcm, hcs⟩ := KO.out.at (by omega)
  subst hga
  have Hcb := Keep.mk hcb
  have Hcs := Keep.mk hcs
  clear hcb hcs
  refine wp_seq_k fun K10 hK10 => ?_
  refine wp_seq_k fun K11 hK11 => rgn ?_
  refine VlS (.int .i64 (k : Int)) ?_
  refine VlS (.pointer (some ⟨gz, 33, none⟩)) ?_
  have cV : wi.cell? ⟨gz, 33, none⟩ = some (.slice (some ⟨ga, 0, none⟩) n rc) := KV.out.c 33 (by rw [hvw.out]; exact vtx_ps _ _ _)
  refine WL.val (by kernel_rfl) (.slice (some ⟨ga, 0, none⟩) n rc) (by go_simp) ?_
  clear cV
  simp only [Act.put, pqA, pqB, pqC]
  refine VlS (.int .i64 (n : Int)) ?_
  refine VlS (.bool true) ?_
  refine WL.nil (hK11 _ _ ?_)
  refine wp_cond_true rfl ?_
  refine wp_skip ?_
  refine hK10 _ _ ?_
  refine wp_seq_k fun K12 hK12 => ?_
  refine wp_block ?_
  refine rgn ?_
  refine VlS (.pointer (some ⟨gz, 33, none⟩)) ?_
  have cV : wi.cell? ⟨gz, 33, none⟩ = some (.slice (some ⟨ga, 0, none⟩) n rc) := KV.out.c 33 (by rw [hvw.out]; exact vtx_ps _ _ _)
  refine WL.val (by kernel_rfl) (.slice (some ⟨ga, 0, none⟩) n rc) (by go_simp) ?_
  clear cV
  simp only [Act.put, pqA, pqB, pqC]
  refine VlS (.int .i64 (k : Int)) ?_
  refine VlS (.int .i64 (k : Int)) ?_
  refine VlS (.int .u8 b60) ?_
  refine WL.bld (by kernel_rfl) 36 _ rfl [(9, .int .u8 b60)] (by simp [Act.eval]) cc (by rw [hcc.out]; exact built9v _) ?_
  simp only [Act.put, pqA, pqB, pqC]
  refine VlS (.pointer (some ⟨ga, k * 32, none⟩)) ?_
  have hfit : k * 32 + cc.size ≤ cur.size := by rw [hcc.out, bytesA_size, Hcs.out]; omega
  refine WL.part (by kernel_rfl) 36 (.tmp 62) (.tmp 61) rfl ga (k * 32) cc rfl rfl 36 cur Hcb.out (by rw [hcc.out]; exact Try.size36B _) hfit (by rw [hcc.out]; exact bytesA_one _ _) _ rfl ?_
  have hgr : Grown wi (wi.setRow ga (cur.toList.take (k * 32) ++ cc.toList ++ cur.toList.drop (k * 32 + cc.size)).toArray) fun q => (Value.slice (some ⟨ga, 0, none⟩) n rc).ownBlock = some q := Grown.setRow wi ga _ fun _ => rfl
  have K1 : Keep (OwnX (wi.setRow ga (cur.toList.take (k * 32) ++ cc.toList ++ cur.toList.drop (k * 32 + cc.size)).toArray) (.slice (some ⟨ga, 0, none⟩) n rc) n) := ⟨ownX_mk (Hcb.out.setRow _) hcc2 hcm (by simp only [List.size_toArray, List.length_append, List.length_take, List.length_drop, Array.length_toList]; have := Hcs.out; omega)⟩
  have K2 := Keep.mk (hgr.blk KV.out fun e => by have := N4.out gz e; have := L34.out; omega)
  have K3 := Keep.mk (KG.out.trans hgr)
  clear hfit hgr
  generalize wi.setRow ga (cur.toList.take (k * 32) ++ cc.toList ++ cur.toList.drop (k * 32 + cc.size)).toArray = wj at *
  simp only [Act.put]
  refine WL.nil (hK12 _ _ ?_)
  refine rgn ?_
  refine VlS (.int .i64 (k : Int)) ?_
  refine VlS (.int .i64 ((k + 1 : Nat) : Int)) ?_
  refine VlS (.int .i64 ((k + 1 : Nat) : Int)) ?_
  refine WL.nil ?_
  refine ⟨⟨k + 1, fun i => [.pointer (some ⟨d, 0, none⟩), .pointer (some ⟨x, 0, none⟩), .agg oo, undef, undef, .pointer (some ⟨w.heap.size, 0, none⟩), .bool false, .pointer (some ⟨gz, 0, none⟩), .int .i64 hw, .slice ua ol.length uc, .int .i64 ee, .int .i64 ((k + 1 : Nat) : Int), undef, undef, undef, undef, undef, undef, undef, undef, undef, undef, undef, undef, undef, undef, undef, undef, undef, undef, undef, .pointer (some ⟨w.heap.size, 0, none⟩), .int .i64 (1), .bool true, .bool true, .pointer (some ⟨w.heap.size, 2, none⟩), .agg vv, .pointer (some ⟨w.heap.size, 2, none⟩), .pointer (some ⟨w.heap.size, 35, none⟩), .slice qa n qc, .slice (some ⟨ga, 0, none⟩) n rc, .pointer (some ⟨gz, 33, none⟩), .tuple #[.int .i64 hw, .slice ua ol.length uc, .int .i64 ee], .pointer (some ⟨d, 0, none⟩), .agg vw, .tuple #[.int .i64 hw, .slice ua ol.length uc, .int .i64 ee], .int .i64 hw, .slice ua ol.length uc, .int .i64 ee, .int .i64 (k : Int), .pointer (some ⟨gz, 33, none⟩), .slice (some ⟨ga, 0, none⟩) n rc, .int .i64 (n : Int), .bool true, .int .i64 (k : Int), .int .i64 ((k + 1 : Nat) : Int), .pointer (some ⟨gz, 33, none⟩), .slice (some ⟨ga, 0, none⟩) n rc, .int .i64 (k : Int), .int .i64 (k : Int), .int .u8 b60, .agg cc, .pointer (some ⟨ga, k * 32, none⟩), undef, undef, undef, undef, undef, undef, undef, undef, undef, undef, undef, undef, undef, undef, undef, undef, undef, undef, undef, undef, undef, undef, undef, undef, undef, undef, undef, undef, undef, undef, undef, undef, undef, undef, undef, undef, undef, undef, undef, undef, undef, undef, undef, undef, undef, undef, undef, undef, undef, undef, undef, undef, undef, undef, undef, undef, undef, undef, undef, undef, undef, undef, undef, undef, undef, undef, undef, undef, undef, undef, undef, undef, undef, undef, undef, undef, undef, undef, undef, undef, undef, undef, undef, undef, undef, undef, undef, undef, undef, undef, undef, undef, undef, undef, undef, undef, undef, undef, undef, undef, undef, undef, undef, undef, undef, undef, undef, undef, undef, undef, undef, undef, undef, undef, undef, undef, undef, undef, undef, undef, undef, undef, undef, undef, undef, undef, undef, undef, undef, undef, undef, undef, undef, undef, undef, undef, undef, undef, undef, undef, undef, undef, undef, undef, undef, undef, undef, undef, undef, undef, undef, undef, undef, undef, undef, undef, undef, undef, undef, undef, undef, undef, undef, undef, undef, undef, undef, undef, undef, undef, undef, undef, undef, undef, undef, undef, undef, undef, undef, undef, undef, undef, undef, undef, undef, undef, undef, undef, undef, undef, undef, undef, undef, undef, undef, undef, undef, undef, undef, undef, undef, undef, undef, undef].getD i undef, rfl, by omega, K1.out, K2.out, K3.out⟩, ?_⟩
  simp only [intOf]; show n - (((k + 1 : Nat) : Int)).toNat < n - ((k : Int)).toNat; omega
 ·have hkl' : ¬ (k : Int) < (n : Int) := by omega
  have L5 : ∀ q, (Value.slice ra n rc).ownBlock = some q → w.heap.size < q ∧ q < w5.heap.size := fun q hq => ⟨by have := N4.out q hq; have := L34.out; have := LZ.out; omega, O5.out.lt q hq⟩
  have hste : Ste w wi (UQ Ps) d g g6 := by
   refine ⟨S6.out.at'.grown KG.out (fun q hq e => ?_) (fun q _ hq => .inl (.inr hq)) (fun q _ hq => hq.elim (fun h => .inl (.inl h)) .inr) (fun q hq => .inr hq) (fun q hq => ?_), ((Grown.below U5.out).next S6.out.grown fun q _ e => e).next KG.out fun q hq e => (by have := L5 q e; omega), fun q hq => (S6.out.sub q hq).imp id fun h => Nat.le_trans U5.out.size h⟩
   ·rcases S6.out.sub q e with h1 | h1
    ·have := HDl.out q h1; have := L5 q hq; omega
    ·have := L5 q hq; omega
   ·exact Nat.lt_of_lt_of_le (S6.out.at'.lt q (hq.elim (fun h => .inl (.inl h)) .inr)) KG.out.size
  have hm := HAq.out.1.prog hi hB hste
  have M2 := Keep.mk hm.1
  have Z2 := Keep.mk hm.2
  have GZ2 : Keep (Grown w wi (UQ Ps)) := ⟨hste.grown.mono fun k _ e => ⟨_, hp, .inl e⟩⟩
  have SB2 := Keep.mk hste.sub
  have HRi : Keep (wi.rangeAt w.heap.size 2 vv.toList) := ⟨rangeAt_grown (rangeAt_grown (HRv.out w5 V5.out) S6.out.grown fun e => by have := HDl.out _ e; omega) KG.out fun e => by have := L5 _ e; omega⟩
  have O7 := Keep.mk (O6.out.grown KG.out fun q hq e => by have := (N6.out q hq).1; have := L5 q e; omega)
  have hi2 : (Ps.set i { (⟨d, x, g, hv, wv, sv, R⟩ : PQ) with g := g6 })[i]? = some { (⟨d, x, g, hv, wv, sv, R⟩ : PQ) with g := g6 } := by rw [List.getElem?_set, if_pos rfl, if_pos (List.getElem?_eq_some_iff.1 hi).1]
  have Hi2 := Keep.mk hi2
  have RA2 : Keep (RAt wi x hv wv sv R) := ⟨M2.out.rg _ (List.mem_iff_getElem?.2 ⟨i, hi2⟩)⟩
  have HRq2 : Keep (HRow wi o.q.2 o.q.1.ps) := ⟨HRq.out.grownN hste.grown fun hne k hk e => by have := HKq.out hne k hk; have := HAq.out.1.lo k (DG.out.av k e); omega⟩
  clear hm hste hi2 L5
  refine wp_seq_k fun K13 hK13 => ?_
  refine wp_seq_k fun K14 hK14 => rgn ?_
  refine VlS (.int .i64 (k : Int)) ?_
  refine VlS (.pointer (some ⟨gz, 33, none⟩)) ?_
  have cV : wi.cell? ⟨gz, 33, none⟩ = some (.slice ra n rc) := KV.out.c 33 (by rw [hvw.out]; exact vtx_ps _ _ _)
  refine WL.val (by kernel_rfl) (.slice ra n rc) (by go_simp) ?_
  clear cV
  simp only [Act.put, pqA, pqB, pqC]
  refine VlS (.int .i64 (n : Int)) ?_
  refine VlS (.bool false) ?_
  refine WL.nil (hK14 _ _ ?_)
  refine wp_cond_false rfl ?_
  refine wp_exit ?_
  refine hK8 _ _ ?_
  refine wp_seq_k fun K15 hK15 => rgn ?_
  refine VlS (.pointer (some ⟨x, 0, none⟩)) ?_
  refine VlS (.pointer (some ⟨w.heap.size, 2, none⟩)) ?_
  refine WL.midA (by kernel_rfl) 39 (.tmp 65) rfl w.heap.size 2 rfl vv _ HRi.out Try.underlying39 rfl (by rw [hvv.out]; exact Try.info39s _ _ _) ?_
  simp only [Act.put, pqA, pqB, pqC]
  have hcon := radd_any x o.q.1 o.q.2 hv wv sv R wi RA2.out RI_.out HRq2.out HLq.out (by rw [SM.out.room]; exact HI.out.room.1)
  rw [← hvv.out, SM.out.hs, SM.out.ws, hfe.out] at hcon
  refine WL.callF (by kernel_rfl) 18 _ _ rfl Try.in18 #[ptr x, .agg vv] (by simp [Act.eval]) ?_
  refine (hcon).mono ?_
  rintro e w8 ⟨u8, p8, hv8, wv8, sv8, R8, ol8, rfl, hst, har, hou, hun⟩
  refine ⟨_, rfl, ?_⟩
  clear hcon
  have GZ3 := Keep.mk (GZ2.out.next hst.grown fun k _ e => ⟨_, hp, .inr e⟩)
  have SB3 := Keep.mk hst.sub
  have hm := M2.out.ref Hi2.out (Nat.le_trans hB Z2.out.size) hst
  have M8 := Keep.mk hm.1
  have Z8 := Keep.mk (Z2.out.trans hm.2)
  have hsm := SM.out.add HI.out A6.out har
  have S8 := Keep.mk hsm.1
  have R8' := Keep.mk (hsm.1.addRI (g := g) I6.out RI_.out har)
  have E8 := Keep.mk hsm.2
  have U8 := Keep.mk (O7.out.grown hst.grown fun k hk e => by have := (N6.out k hk).1; have := RA_.out.lt k e; have := U5.out.size; omega)
  have O8 := Keep.mk hou
  clear hm hsm hst har hou hun
  obtain ⟨ub, ud, rfl⟩ := O8.out.sl
  simp only [Act.put, pqA, pqB, pqC]
  refine VlS (.tuple #[.int .i64 hw, .slice ub ol8.length ud, .int .i64 ee]) ?_
  refine VlS (.int .i64 hw) ?_
  refine VlS (.slice ub ol8.length ud) ?_
  refine VlS (.int .i64 ee) ?_
  refine VlS (.int .i64 hw) ?_
  refine VlS (.slice ub ol8.length ud) ?_
  refine VlS (.int .i64 ee) ?_
  refine WL.nil (hK15 _ _ ?_)
  refine wp_seq_k fun K16 hK16 => rgn ?_
  refine VlS (.int .i64 hw) ?_
  refine VlS (.int .i64 hw) ?_
  refine VlS (.bool true) ?_
  refine VlS (.bool true) ?_
  refine VlS (.int .i64 ee) ?_
  refine VlS (.int .i64 ee) ?_
  refine VlS (.bool true) ?_
  refine VlS (.bool true) ?_
  refine VlS (.bool true) ?_
  refine VlS (.slice ua ol.length uc) ?_
  refine VlS (.slice ub ol8.length ud) ?_
  have hol : ol.length ≤ 1 := by
   rcases A6.out with ⟨_, _, h⟩ | ⟨_, _, _, h⟩ | ⟨_, _, _, _, _, h⟩ | ⟨_, _, _, h⟩ <;> rw [h] <;> simp
  have hcon := smH_any (.slice ua ol.length uc) (.slice ub ol8.length ud) ol ol8 w8 U8.out.row O8.out.row (by omega)
  rw [decide_eq_true E8.out] at hcon
  refine WL.callF (by kernel_rfl) 19 _ _ rfl Try.in19 #[.slice ua ol.length uc, .slice ub ol8.length ud] (by simp [Act.eval]) ?_
  refine (hcon).mono ?_
  rintro e w9 ⟨rfl, hz⟩
  refine ⟨_, rfl, ?_⟩
  clear hcon hol
  have M9 := Keep.mk (M8.out.below hz)
  have GZ9 := Keep.mk (GZ3.out.trans (Grown.below hz))
  have Z9 := Keep.mk (Z8.out.trans (hz.mono (Nat.le_trans hB Z8.out.size)))
  clear hz
  simp only [Act.put, pqA, pqB, pqC]
  refine VlS (.bool true) ?_
  refine VlS (.bool true) ?_
  refine WL.nil (hK16 _ _ ?_)
  refine wp_ret ?_
  go_ret
  have hmp := M9.out
  rw [List.set_set] at hmp
  exact ⟨rfl, Z9.out, GZ9.out, (⟨d, x, g6, hv8, wv8, sv8, R8⟩ : PQ), rfl, rfl, HAq.out.set hi (show MP B w9 (Ps.set i ⟨d, x, g6, hv8, wv8, sv8, R8⟩) from hmp) ⟨I6.out, R8'.out, S8.out⟩, uq_sub hi fun k hk => hk.elim (fun h => (SB2.out k h).imp .inl id) fun h => (SB3.out k h).imp .inr fun h => Nat.le_trans GZ2.out.size h⟩
/-- answers, whatever is asked. -/
theorem answers_any (B : Nat) (Ps : List PQ) (i : Nat) (p : PQ) (o : OP) (w : World) (hA : AQ B w Ps) (hi : Ps[i]? = some p) (hB : B ≤ w.heap.size) (hr : HRow w o.q.2 o.q.1.ps) (hLp : o.q.1.ps.length ≤ 4398046511104) (hK' : o.q.1.ps ≠ [] → ∀ k, o.q.2.ownBlock = some k → k < B) : Calls Try.prog 13 #[ptr p.d, ptr p.x, .agg (opA o)] w (AnP B Ps i p w) := by
 have hL : (o.q.1.ps.length : Int) ≤ 9223372036854775806 := by omega
 by_cases h1 : o.k = 1
 ·exact an_add B Ps i p o w hA hi hB hr hL hK' hLp h1
 by_cases h2 : o.k = 2
 ·exact an_fit B Ps i p o w hA hi hB hr hL hK' h2
 by_cases h3 : o.k = 3
 ·exact an_next B Ps i p o w hA hi hB hr hL hK' h3
 by_cases h4 : o.k = 4
 ·exact an_ready B Ps i p o w hA hi hB hr hL hK' h4
 by_cases h5 : o.k = 5
 ·exact an_settle B Ps i p o w hA hi hB hr hL hK' h5
 by_cases h6 : o.k = 6
 ·exact an_forget B Ps i p o w hA hi hB hr hL hK' h6
 by_cases h7 : o.k = 7
 ·exact an_has B Ps i p o w hA hi hB hr hL hK' h7
 by_cases h8 : o.k = 8
 ·exact an_heads B Ps i p o w hA hi hB hr hL hK' h8
 by_cases h9 : o.k = 9
 ·exact an_missing B Ps i p o w hA hi hB hr hL hK' h9
 by_cases h10 : o.k = 10
 ·exact an_waiting B Ps i p o w hA hi hB hr hL hK' h10
 by_cases h11 : o.k = 11
 ·exact an_order B Ps i p o w hA hi hB hr hL hK' h11
 by_cases h12 : o.k = 12
 ·exact an_parents B Ps i p o w hA hi hB hr hL hK' h12
 by_cases h13 : o.k = 13
 ·exact an_clock B Ps i p o w hA hi hB hr hL hK' h13
 exact an_len B Ps i p o w hA hi hB hr hL hK' h1 h2 h3 h4 h5 h6 h7 h8 h9 h10 h11 h12 h13
end Go.Proofs.Ytogmdfhicbmplaa
namespace Go.Proofs.Ytogmdfhicbmplaa
open Go.RowKit
set_option linter.unusedSimpArgs false
set_option linter.unusedVariables false

end Go.Proofs.Ytogmdfhicbmplaa
