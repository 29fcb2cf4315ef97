import Derived.Test.YtlggejehaonkcaaDoorA09
import Derived.Test.YtlggejehaonkcaaDoorA10
import Derived.Test.YtlggejehaonkcaaDoorA11
import Derived.Deep.RegionHeld3
import Derived.Lib.Small
import Derived.Deep.MidRow
namespace Go.Proofs.YtlggejehaonkcaaDoor
open Go.RowKit
set_option linter.unusedSimpArgs false
set_option linter.unusedVariables false

set_option maxRecDepth 8000 in
set_option maxHeartbeats 4000000 in
theorem crash_any (h p : Nat) (vk vf : Value) (kp : List Int) (cs : List FC) (D : DV) (w : World) (hH : Blk w h 55 #[ptr p]) (hD : DskAt w p vf cs D) (hKp : IntsAt w vk kp) (hKn : kp ≠ [] → ∀ k, vk.ownBlock = some k → k ≠ p ∧ vf.ownBlock ≠ some k) (hL : cs.length ≤ 1000000) (hS : ∀ f ∈ D.fs, 0 ≤ f.sf ∧ f.sf ≤ (f.bs.length : Int) ∧ f.bs.length ≤ 70368744177664) (hU : usd D.fs ≤ 70368744177664) :
  Calls Tryd.prog 11 #[ptr h, vk] w fun e w' => e = .returned (.tuple #[]) ∧ ∃ cs', DskAt w' p vf cs' (D.crash kp) ∧ (Grown w w' fun k => k = p ∨ vf.ownBlock = some k) ∧ ∀ k, DskS p vf cs' k → DskS p vf cs k ∨ w.heap.size ≤ k := by
 obtain ⟨va, vc, rfl⟩ := hD.own.sl
 obtain ⟨ka, kc, rfl⟩ := hKp.form
 have HH := Keep.mk hH
 have HD := Keep.mk hD
 have HKp := Keep.mk hKp
 have HKn := Keep.mk hKn
 have HL := Keep.mk hL
 have HS := Keep.mk hS
 have HU := Keep.mk hU
 clear hH hD hKp hKn hL hS hU
 go_enter Tryd.func11, Tryd.ntmps11
 have c0 := HH.out.c 0 (by rfl : (#[ptr p] : Array Value)[0]? = some (ptr p))
 refine wp_seq_k fun K1 hK1 => rgn ?_
 refine VlS (.pointer (some ⟨h, 0, none⟩)) ?_
 refine VlS (.pointer (some ⟨h, 0, none⟩)) ?_
 refine VlS (.pointer (some ⟨h, 0, none⟩)) ?_
 refine VlS (.pointer (some ⟨p, 0, none⟩)) ?_
 refine VlS (.pointer (some ⟨p, 0, none⟩)) ?_
 refine WL.nil (hK1 _ _ ?_)
 refine wp_seq_k fun K2 hK2 => rgn ?_
 refine VlS (.pointer (some ⟨p, 0, none⟩)) ?_
 refine VlS (.pointer (some ⟨p, 0, none⟩)) ?_
 refine VlS (.pointer (some ⟨p, 2, none⟩)) ?_
 have cl := HD.out.blk.c 2 (by rfl : (stA (.slice va cs.length vc) D)[2]? = some (.int .i64 D.used))
 have f_o := HD.out.blk.frozen 2
 refine WL.cell (by kernel_rfl) (w.setCell ⟨p, 2, none⟩ (.int .i64 0)) (by go_simp) ?_
 have HD1 : Keep (DskAt (w.setCell ⟨p, 2, none⟩ (.int .i64 0)) p (.slice va cs.length vc) cs { D with used := 0 }) := ⟨HD.out.put rfl rfl⟩
 have G1 : Keep (Grown w (w.setCell ⟨p, 2, none⟩ (.int .i64 0)) fun k => k = p ∨ (Value.slice va cs.length vc).ownBlock = some k) := ⟨Grown.setCell w p 2 _ fun _ => .inl rfl⟩
 clear c0 cl f_o
 generalize w.setCell ⟨p, 2, none⟩ (.int .i64 0) = w1 at *
 have p0 := HD1.out.blk.c 0 (by rfl : (stA (.slice va cs.length vc) { D with used := 0 })[0]? = some (.slice va cs.length vc))
 simp only [Act.put]
 refine WL.nil (hK2 _ _ ?_)
 refine wp_seq_k fun K3 hK3 => ?_
 refine wp_seq_k fun K4 hK4 => rgn ?_
 refine VlS (.pointer (some ⟨p, 0, none⟩)) ?_
 refine VlS (.pointer (some ⟨p, 0, none⟩)) ?_
 refine VlS (.pointer (some ⟨p, 0, none⟩)) ?_
 refine VlS (.slice va cs.length vc) ?_
 refine VlS (.int .i64 (cs.length : Int)) ?_
 refine VlS (.int .i64 0) ?_
 refine WL.nil (hK4 _ _ ?_)
 refine wp_block ?_
 refine wp_loop (fun ac wr => ∃ (t : Nat) (fz : Nat → Value) (ct : List FC) (Dt : DV), ac = { tmps := #[.pointer (some ⟨h, 0, none⟩), .slice ka kp.length kc, undef, undef, .pointer (some ⟨p, 0, none⟩), fz 5, fz 6, fz 7, fz 8, .pointer (some ⟨h, 0, none⟩), .pointer (some ⟨h, 0, none⟩), .pointer (some ⟨h, 0, none⟩), .pointer (some ⟨p, 0, none⟩), .pointer (some ⟨p, 0, none⟩), .pointer (some ⟨p, 0, none⟩), .pointer (some ⟨p, 2, none⟩), .pointer (some ⟨p, 0, none⟩), .pointer (some ⟨p, 0, none⟩), .pointer (some ⟨p, 0, none⟩), .slice va cs.length vc, .int .i64 (cs.length : Int), .int .i64 (t : Int), fz 22, fz 23, fz 24, fz 25, fz 26, fz 27, fz 28, fz 29, fz 30, fz 31, fz 32, fz 33, fz 34, fz 35, fz 36, fz 37, fz 38, fz 39, fz 40, fz 41, fz 42, fz 43, fz 44, fz 45, fz 46, fz 47, fz 48, fz 49, fz 50, fz 51, fz 52, fz 53, fz 54, fz 55, fz 56, fz 57, fz 58, fz 59, fz 60, fz 61, fz 62, fz 63, fz 64, fz 65, fz 66, fz 67, fz 68, fz 69, fz 70, fz 71, fz 72, fz 73, fz 74, fz 75, fz 76, fz 77, fz 78, fz 79, fz 80, fz 81, fz 82, fz 83, fz 84, fz 85, fz 86, fz 87, fz 88, undef, undef, undef, undef, undef, undef], defers := [] } ∧ t ≤ cs.length ∧ ct.length = cs.length ∧ DskAt wr p (.slice va cs.length vc) ct Dt ∧ Dt = { D with fs := crT kp t D.fs, used := usd ((crT kp t D.fs).take t) } ∧ Grown w wr (fun k => k = p ∨ (Value.slice va cs.length vc).ownBlock = some k) ∧ ∀ k, DskS p (.slice va cs.length vc) ct k → DskS p (.slice va cs.length vc) cs k ∨ w.heap.size ≤ k) (fun a _ => cs.length - (intOf (a.tmps.getD 21 undef)).toNat) ⟨0, fun zz => [.pointer (some ⟨h, 0, none⟩), .slice ka kp.length kc, undef, undef, .pointer (some ⟨p, 0, none⟩), undef, undef, undef, undef, .pointer (some ⟨h, 0, none⟩), .pointer (some ⟨h, 0, none⟩), .pointer (some ⟨h, 0, none⟩), .pointer (some ⟨p, 0, none⟩), .pointer (some ⟨p, 0, none⟩), .pointer (some ⟨p, 0, none⟩), .pointer (some ⟨p, 2, none⟩), .pointer (some ⟨p, 0, none⟩), .pointer (some ⟨p, 0, none⟩), .pointer (some ⟨p, 0, none⟩), .slice va cs.length vc, .int .i64 (cs.length : Int), .int .i64 0, undef, undef, undef, undef, undef, undef, undef, undef, undef, undef, undef, undef, undef, undef, undef, undef, undef, undef, undef, undef, undef, undef, undef, undef, undef, undef, undef, undef, undef, undef, undef, undef, undef, undef, undef, undef, undef, undef, undef, undef, undef, undef, undef, undef, undef, undef, undef, undef, undef, undef, undef, undef, undef, undef, undef, undef, undef, undef, undef, undef, undef, undef, undef, undef, undef, undef, undef, undef, undef, undef, undef, undef, undef].getD zz undef, cs, _, rfl, Nat.zero_le _, rfl, HD1.out, by rw [crT_zero]; rfl, G1.out, fun k h => .inl h⟩ ?_
 clear p0 HD1 G1
 rintro ac wr ⟨t, fz, ct, Dt, rfl, ht, hct, hJ1, hJ2, hJ3, hJ4⟩
 have JD := Keep.mk hJ1
 have JE := Keep.mk hJ2
 have JG := Keep.mk hJ3
 have JS := Keep.mk hJ4
 have JC := Keep.mk hct
 clear hJ1 hJ2 hJ3 hJ4 hct
 by_cases hlt : t < cs.length
 ·have hlt' : (t : Int) < (cs.length : Int) := by omega
  have hwt : IntKind.i64.wrap ((t : Int) + 1) = (t : Int) + 1 := by rw [IntKind.wrap_i64]; have := HL.out; omega
  have hLD : t < D.fs.length := by have := HD.out.fcs.len; omega
  obtain ⟨f, hf⟩ : ∃ f, D.fs[t]? = some f := ⟨D.fs[t]'hLD, List.getElem?_eq_getElem _⟩
  have HFd := Keep.mk hf
  have HFt : Keep (Dt.fs[t]? = some f) := ⟨by rw [JE.out]; show (crT kp t D.fs)[t]? = some f; rw [crT_at]; exact hf⟩
  obtain ⟨x, hx⟩ : ∃ x, ct[t]? = some x := ⟨ct[t]'(by have := JC.out; omega), List.getElem?_eq_getElem _⟩
  obtain ⟨g, ha, hrg⟩ := JD.out.own.at hx
  subst ha
  have hec := JD.out.fcs.each t x f hx HFt.out
  have hbf := HS.out f (List.mem_of_getElem? hf)
  obtain ⟨xn, xb, xs⟩ := x
  obtain ⟨xa, xc, hxb⟩ := row_form hec.2.2.row
  change xb = _ at hxb
  subst hxb
  have HX := Keep.mk hx
  have HXs : Keep (xs = f.sf) := ⟨hec.2.1⟩
  have HB : Keep (0 ≤ xs ∧ xs ≤ (f.bs.length : Int) ∧ f.bs.length ≤ 70368744177664) := ⟨by rw [HXs.out]; exact hbf⟩
  have HUt : Keep (0 ≤ Dt.used ∧ Dt.used ≤ 70368744177664) := ⟨by
   rw [JE.out]
   show 0 ≤ usd ((crT kp t D.fs).take t) ∧ usd ((crT kp t D.fs).take t) ≤ 70368744177664
   have h1 := usd_crT kp D.fs (fun f hf => ⟨(HS.out f hf).1, (HS.out f hf).2.1⟩) t (by omega)
   have h2 := usd_take D.fs t
   have h3 := usd_nonneg ((crT kp t D.fs).take t)
   have h4 := HU.out
   omega⟩
  clear hrg hec hx hf hbf
  have p0 := JD.out.blk.c 0 (by rfl : (stA (.slice (some ⟨g, 0, none⟩) cs.length vc) Dt)[0]? = some (.slice (some ⟨g, 0, none⟩) cs.length vc))
  refine wp_seq_k fun K5 hK5 => rgn ?_
  refine VlS (.bool true) ?_
  refine WL.nil (hK5 _ _ ?_)
  refine wp_seq_k fun K6 hK6 => ?_
  refine wp_cond_true rfl ?_
  refine wp_skip ?_
  refine hK6 _ _ ?_
  refine wp_seq_k fun K7 hK7 => ?_
  refine wp_block ?_
  refine wp_seq_k fun K8 hK8 => rgn ?_
  refine VlS (.int .i64 (t : Int)) ?_
  refine VlS (.int .i64 (t : Int)) ?_
  refine WL.nil (hK8 _ _ ?_)
  refine wp_seq_k fun K9 hK9 => rgn ?_
  refine VlS (.pointer (some ⟨p, 0, none⟩)) ?_
  refine VlS (.pointer (some ⟨p, 0, none⟩)) ?_
  refine VlS (.pointer (some ⟨p, 0, none⟩)) ?_
  refine VlS (.slice (some ⟨g, 0, none⟩) cs.length vc) ?_
  refine VlS (.int .i64 (t : Int)) ?_
  refine VlS (.pointer (some ⟨g, t * 3, none⟩)) ?_
  refine VlS (.pointer (some ⟨g, t * 3, none⟩)) ?_
  refine WL.nil (hK9 _ _ ?_)
  refine wp_seq_k fun K10 hK10 => rgn ?_
  refine VlS (.int .i64 0) ?_
  refine WL.nil (hK10 _ _ ?_)
  refine wp_seq_k fun K11 hK11 => ?_
  refine wp_seq_k fun K12 hK12 => rgn ?_
  refine VlS (.int .i64 (t : Int)) ?_
  refine VlS (.slice ka kp.length kc) ?_
  refine VlS (.int .i64 (kp.length : Int)) ?_
  by_cases h7_3 : (t : Int) < (kp.length : Int)
  ·skip
   refine VlS (.bool true) ?_
   refine WL.nil (hK12 _ _ ?_)
   refine wp_cond_true rfl ?_
   refine wp_seq_k fun K13 hK13 => ?_
   have hkn : kp ≠ [] := fun e => by rw [e] at h7_3; simp at h7_3; omega
   obtain ⟨q, ko, hq, hc⟩ := (HKp.out.grown JG.out fun k hk h => h.elim (HKn.out hkn k hk).1 (HKn.out hkn k hk).2).at (t := t) (by omega)
   clear hkn
   subst hq
   obtain ⟨kv, hkv⟩ : ∃ z, Keep (z = kp.getD t 0) := ⟨_, ⟨rfl⟩⟩
   rw [← hkv.out] at hc
   have ck : wr.drew.cell? ⟨q, ko + t, none⟩ = some (.int .i64 kv) := hc
   clear hc p0
   obtain ⟨mm, hmm⟩ : ∃ z, Keep (z = (f.bs.length : Int) - xs) := ⟨_, ⟨rfl⟩⟩
   obtain ⟨kk, hkk⟩ : ∃ z, Keep (z = (f.bs.length : Int) - xs + 1) := ⟨_, ⟨rfl⟩⟩
   have hw1 : IntKind.i64.wrap ((f.bs.length : Int) - xs) = mm := by have := hmm.out; have := HB.out; rw [IntKind.wrap_i64]; omega
   have hw2 : IntKind.i64.wrap (mm + 1) = kk := by have := hmm.out; have := hkk.out; have := HB.out; rw [IntKind.wrap_i64]; omega
   have hkp : Keep (0 < kk ∧ kk ≤ 70368744177665) := ⟨by have := hkk.out; have := HB.out; omega⟩
   have hk0 : ¬ kk = 0 := by have := hkp.out; omega
   obtain ⟨r2, hr2⟩ : ∃ z, Keep (z = Int.tmod kv kk + kk) := ⟨_, ⟨rfl⟩⟩
   have hw3 : IntKind.i64.wrap (Int.tmod kv kk + kk) = r2 := by have := hr2.out; have := hkp.out; have := tm_bnd kv kk (by omega); rw [IntKind.wrap_i64]; omega
   obtain ⟨nn, hnn⟩ : ∃ z, Keep (z = Int.tmod r2 kk) := ⟨_, ⟨rfl⟩⟩
   have hw4 : Int.tmod r2 kk = nn := hnn.out.symm
   have HN : Keep (nn = kpN kp t f) := ⟨by unfold kpN; rw [if_pos (by omega), ← HXs.out, ← hkk.out, ← hkv.out, ← hr2.out, hnn.out]⟩
   have JDd : Keep (DskAt wr.drew p (.slice (some ⟨g, 0, none⟩) cs.length vc) ct Dt) := ⟨JD.out.grown (Grown.refl wr (fun _ => False)).drew fun _ _ h => h⟩
   have JGd : Keep (Grown w wr.drew (fun k => k = p ∨ (Value.slice (some ⟨g, 0, none⟩) cs.length vc).ownBlock = some k)) := ⟨JG.out.drew⟩
   clear JD JG hmm hkk hr2 hnn hkv
   refine wp_region_held_drew (S := fun wx => wx.cell? ⟨g, t * 3 + 1, none⟩ = some (.slice xa f.bs.length xc) ∧ wx.cell? ⟨g, t * 3 + 2, none⟩ = some (.int .i64 xs)) (by kernel_rfl) (own_fc JDd.out.own HX.out) (fun hHeld => ?_)
   generalize wr.drew = wa at *
   have JD := JDd
   have JG := JGd
   clear JDd JGd
   refine tkS (i := 0) (oi := ⟨some 34, Op.move (Operand.tmp 6), 70, _, _, none⟩) (v := .pointer (some ⟨g, t * 3, none⟩)) rfl (Or.inl ⟨by rfl, fun w hS => by obtain ⟨hS1, hS2⟩ := hS; go_simp⟩) hHeld ?_
   refine tkS (i := 1) (oi := ⟨some 35, Op.nilCheck (Operand.tmp 34), 0, _, _, none⟩) (v := .pointer (some ⟨g, t * 3, none⟩)) rfl (Or.inl ⟨by rfl, fun w hS => by obtain ⟨hS1, hS2⟩ := hS; go_simp⟩) hHeld ?_
   refine tkS (i := 2) (oi := ⟨some 36, Op.fieldAddr 72 (Operand.tmp 35) 1, 0, _, _, none⟩) (v := .pointer (some ⟨g, t * 3 + 1, none⟩)) rfl (Or.inl ⟨by rfl, fun w hS => by obtain ⟨hS1, hS2⟩ := hS; go_simp⟩) hHeld ?_
   refine tkS (i := 3) (oi := ⟨some 37, Op.load 41 (Operand.tmp 36), 41, _, _, none⟩) (v := .slice xa f.bs.length xc) rfl (Or.inl ⟨by rfl, fun w hS => by obtain ⟨hS1, hS2⟩ := hS; go_simp⟩) hHeld ?_
   refine tkS (i := 4) (oi := ⟨some 38, Op.call { callee := Callee.builtin Builtin.len, args := #[Operand.tmp 37], argTypes := #[41] }, 3, _, _, none⟩) (v := .int .i64 (f.bs.length : Int)) rfl (Or.inl ⟨by rfl, fun w hS => by obtain ⟨hS1, hS2⟩ := hS; go_simp⟩) hHeld ?_
   refine tkS (i := 5) (oi := ⟨some 39, Op.move (Operand.tmp 6), 70, _, _, none⟩) (v := .pointer (some ⟨g, t * 3, none⟩)) rfl (Or.inl ⟨by rfl, fun w hS => by obtain ⟨hS1, hS2⟩ := hS; go_simp⟩) hHeld ?_
   refine tkS (i := 6) (oi := ⟨some 40, Op.nilCheck (Operand.tmp 39), 0, _, _, none⟩) (v := .pointer (some ⟨g, t * 3, none⟩)) rfl (Or.inl ⟨by rfl, fun w hS => by obtain ⟨hS1, hS2⟩ := hS; go_simp⟩) hHeld ?_
   refine tkS (i := 7) (oi := ⟨some 41, Op.fieldAddr 72 (Operand.tmp 40) 2, 0, _, _, none⟩) (v := .pointer (some ⟨g, t * 3 + 2, none⟩)) rfl (Or.inl ⟨by rfl, fun w hS => by obtain ⟨hS1, hS2⟩ := hS; go_simp⟩) hHeld ?_
   refine tkS (i := 8) (oi := ⟨some 42, Op.load 3 (Operand.tmp 41), 3, _, _, none⟩) (v := .int .i64 xs) rfl (Or.inl ⟨by rfl, fun w hS => by obtain ⟨hS1, hS2⟩ := hS; go_simp⟩) hHeld ?_
   refine tkS (i := 9) (oi := ⟨some 43, Op.binOp BinOp.sub 3 (Operand.tmp 38) (Operand.tmp 42) 3, 3, _, _, none⟩) (v := .int .i64 mm) rfl (Or.inl ⟨by rfl, fun w hS => by obtain ⟨hS1, hS2⟩ := hS; go_simp⟩) hHeld ?_
   refine tkS (i := 10) (oi := ⟨some 44, Op.binOp BinOp.add 3 (Operand.tmp 43) (Operand.const (Value.int IntKind.i64 1)) 3, 3, _, _, none⟩) (v := .int .i64 kk) rfl (Or.inl ⟨by rfl, fun w hS => by obtain ⟨hS1, hS2⟩ := hS; go_simp⟩) hHeld ?_
   refine tkS (i := 11) (oi := ⟨some 8, Op.assign (Operand.tmp 44), 3, _, _, none⟩) (v := .int .i64 kk) rfl (Or.inl ⟨by rfl, fun w hS => by obtain ⟨hS1, hS2⟩ := hS; go_simp⟩) hHeld ?_
   refine wpAnyH_done (by kernel_rfl) ?_ _
   refine hK13 _ _ ?_
   refine rgn ?_
   refine VlS (.slice (some ⟨q, ko, none⟩) kp.length kc) ?_
   refine VlS (.int .i64 (t : Int)) ?_
   refine VlS (.pointer (some ⟨q, ko + t, none⟩)) ?_
   refine VlS (.int .i64 kv) ?_
   refine VlS (.int .i64 kk) ?_
   refine VlS (.int .i64 (Int.tmod kv kk)) ?_
   refine VlS (.int .i64 kk) ?_
   refine VlS (.int .i64 r2) ?_
   refine VlS (.int .i64 kk) ?_
   refine VlS (.int .i64 nn) ?_
   refine VlS (.int .i64 nn) ?_
   refine WL.nil (hK11 _ _ ?_)
   refine wp_seq_k fun K14 hK14 => ?_
   clear ck hw1 hw2 hw3 hw4 hk0 hkp
   have HNb : Keep (0 ≤ nn ∧ nn ≤ (f.bs.length : Int) - xs) := ⟨by have h := HB.out; rw [HN.out, HXs.out]; rw [HXs.out] at h; exact kpN_le kp t f ⟨h.1, h.2.1⟩⟩
   obtain ⟨m, hm⟩ : ∃ m : Nat, Keep ((m : Int) = xs + nn) := ⟨(xs + nn).toNat, ⟨by have := HB.out; have := HNb.out; omega⟩⟩
   have hws : IntKind.i64.wrap (xs + nn) = (m : Int) := by have := hm.out; have := HB.out; have := HNb.out; rw [IntKind.wrap_i64]; omega
   have c2 := (own_fc JD.out.own HX.out).2
   change wa.cell? ⟨g, t * 3 + 2, none⟩ = some (.int .i64 xs) at c2
   have f_o : wa.frozen? ⟨g, t * 3 + 2, none⟩ = false := ownF_frozen JD.out.own _
   refine rgn ?_
   refine VlS (.pointer (some ⟨g, t * 3, none⟩)) ?_
   refine VlS (.pointer (some ⟨g, t * 3, none⟩)) ?_
   refine VlS (.pointer (some ⟨g, t * 3 + 2, none⟩)) ?_
   refine VlS (.int .i64 xs) ?_
   refine VlS (.int .i64 nn) ?_
   refine VlS (.int .i64 (m : Int)) ?_
   refine VlS (.pointer (some ⟨g, t * 3, none⟩)) ?_
   refine VlS (.pointer (some ⟨g, t * 3 + 2, none⟩)) ?_
   refine WL.cell (by kernel_rfl) (wa.setCell ⟨g, t * 3 + 2, none⟩ (.int .i64 (m : Int))) (by go_simp) ?_
   have JD2 : Keep (DskAt (wa.setCell ⟨g, t * 3 + 2, none⟩ (.int .i64 (m : Int))) p (.slice (some ⟨g, 0, none⟩) cs.length vc) (ct.set t ⟨xn, .slice xa f.bs.length xc, (m : Int)⟩) { Dt with fs := Dt.fs.set t { f with sf := (m : Int) } }) := ⟨dsk_sf (z := (m : Int)) JD.out HX.out HFt.out⟩
   have G2 : Keep (Grown w (wa.setCell ⟨g, t * 3 + 2, none⟩ (.int .i64 (m : Int))) (fun k => k = p ∨ (Value.slice (some ⟨g, 0, none⟩) cs.length vc).ownBlock = some k)) := ⟨JG.out.trans (Grown.setCell wa g _ _ fun _ => .inr rfl)⟩
   have HM : Keep (m ≤ f.bs.length) := ⟨by have := hm.out; have := HB.out; have := HNb.out; omega⟩
   have HX2 : Keep ((ct.set t (⟨xn, .slice xa f.bs.length xc, (m : Int)⟩ : FC))[t]? = some (⟨xn, .slice xa f.bs.length xc, (m : Int)⟩ : FC)) := ⟨List.getElem?_set_self (List.getElem?_eq_some_iff.1 HX.out).1⟩
   have HF2 : Keep ((Dt.fs.set t { f with sf := (m : Int) })[t]? = some ({ f with sf := (m : Int) } : PF)) := ⟨List.getElem?_set_self (List.getElem?_eq_some_iff.1 HFt.out).1⟩
   clear c2 f_o hws JD JG
   generalize (wa.setCell ⟨g, t * 3 + 2, none⟩ (.int .i64 (m : Int))) = w2 at *
   obtain ⟨D2, hD2⟩ : ∃ z : DV, Keep (z = { Dt with fs := Dt.fs.set t { f with sf := (m : Int) } }) := ⟨_, ⟨rfl⟩⟩
   have HF3 : Keep (D2.fs[t]? = some ({ f with sf := (m : Int) } : PF)) := ⟨by rw [hD2.out]; exact HF2.out⟩
   have HU3 : Keep (D2.used = Dt.used) := ⟨by rw [hD2.out]⟩
   rw [← hD2.out] at JD2
   obtain ⟨c2, hc2⟩ : ∃ z : List FC, Keep (z = ct.set t ⟨xn, .slice xa f.bs.length xc, (m : Int)⟩) := ⟨_, ⟨rfl⟩⟩
   rw [← hc2.out] at JD2 HX2
   clear HF2
   simp only [Act.put]
   refine WL.nil (hK14 _ _ ?_)
   refine wp_seq_k fun K15 hK15 => ?_
   have JD3 : Keep (DskAt w2.drew p (.slice (some ⟨g, 0, none⟩) cs.length vc) c2 D2) := ⟨JD2.out.grown (Grown.refl w2 (fun _ => False)).drew fun _ _ h => h⟩
   have G3 : Keep (Grown w w2.drew (fun k => k = p ∨ (Value.slice (some ⟨g, 0, none⟩) cs.length vc).ownBlock = some k)) := ⟨G2.out.drew⟩
   clear JD2 G2
   have HR3 : Keep (RowAt w2.drew (.slice xa f.bs.length xc) f.bs) := ⟨(JD3.out.fcs.each t _ _ HX2.out HF3.out).2.2.row⟩
   obtain ⟨vs, hs1, hs2⟩ := sub_any (.slice xa f.bs.length xc) f.bs w2.drew HR3.out m HM.out
   have HS1 := Keep.mk hs1
   have HS2 := Keep.mk hs2
   clear hs1 hs2
   refine wp_region_held_drew (S := fun wx => wx.cell? ⟨g, t * 3 + 2, none⟩ = some (.int .i64 (m : Int))) (by kernel_rfl) (own_fc JD3.out.own HX2.out).2 (fun hHeld => ?_)
   generalize w2.drew = w3 at *
   refine tkS (i := 0) (oi := ⟨some 63, Op.move (Operand.tmp 6), 70, _, _, none⟩) (v := .pointer (some ⟨g, t * 3, none⟩)) rfl (Or.inl ⟨by rfl, fun w hS => by go_simp⟩) hHeld ?_
   refine tkS (i := 2) (oi := ⟨some 65, Op.move (Operand.tmp 6), 70, _, _, none⟩) (v := .pointer (some ⟨g, t * 3, none⟩)) rfl (Or.inl ⟨by rfl, fun w hS => by go_simp⟩) hHeld ?_
   refine tkS (i := 3) (oi := ⟨some 66, Op.nilCheck (Operand.tmp 65), 0, _, _, none⟩) (v := .pointer (some ⟨g, t * 3, none⟩)) rfl (Or.inl ⟨by rfl, fun w hS => by go_simp⟩) hHeld ?_
   refine tkS (i := 4) (oi := ⟨some 67, Op.fieldAddr 72 (Operand.tmp 66) 1, 0, _, _, none⟩) (v := .pointer (some ⟨g, t * 3 + 1, none⟩)) rfl (Or.inl ⟨by rfl, fun w hS => by go_simp⟩) hHeld ?_
   refine tkS (i := 6) (oi := ⟨some 69, Op.move (Operand.tmp 6), 70, _, _, none⟩) (v := .pointer (some ⟨g, t * 3, none⟩)) rfl (Or.inl ⟨by rfl, fun w hS => by go_simp⟩) hHeld ?_
   refine tkS (i := 7) (oi := ⟨some 70, Op.nilCheck (Operand.tmp 69), 0, _, _, none⟩) (v := .pointer (some ⟨g, t * 3, none⟩)) rfl (Or.inl ⟨by rfl, fun w hS => by go_simp⟩) hHeld ?_
   refine tkS (i := 8) (oi := ⟨some 71, Op.fieldAddr 72 (Operand.tmp 70) 2, 0, _, _, none⟩) (v := .pointer (some ⟨g, t * 3 + 2, none⟩)) rfl (Or.inl ⟨by rfl, fun w hS => by go_simp⟩) hHeld ?_
   refine tkS (i := 9) (oi := ⟨some 72, Op.load 3 (Operand.tmp 71), 3, _, _, none⟩) (v := .int .i64 (m : Int)) rfl (Or.inl ⟨by rfl, fun w hS => by go_simp⟩) hHeld ?_
   refine wpAnyH_ready (rs := [1, 5]) (by kernel_rfl) (by simp) ?_
   refine AllReadyH.cons (o := ⟨some 64, Op.buildSlice 41 0 #[], 41, _, _, none⟩) rfl (fun K hK => ?_) (AllReadyH.cons (o := ⟨some 68, Op.load 41 (Operand.tmp 67), 41, _, _, none⟩) rfl (fun K hK => ?_) AllReadyH.nil)
   rw [if_pos (by rfl)]
   refine wp_bsj 41 0 _ rfl #[] (by simp) _ _ (bsBE w3) ?_
   have hbx := below_new w3 (.cells #[] 5)
   have HE4 : Keep (Own (w3.alloc (.cells #[] 5)) (.slice (some ⟨w3.heap.size, 0, none⟩) 0 0) []) := ⟨own_empty _ _ (Blk.new w3 5 #[])⟩
   have JD4 := Keep.mk (JD3.out.below hbx)
   have B4 := Keep.mk hbx
   clear hbx
   generalize w3.alloc (.cells #[] 5) = w4 at *
   obtain ⟨ge, hge⟩ : ∃ q, Keep (q = w3.heap.size) := ⟨_, ⟨rfl⟩⟩
   rw [← hge.out] at HE4 ⊢
   refine hK _ _ (own_fc JD4.out.own HX2.out).2 fun hB4 => ?_
   clear hK
   simp only [Act.put, pqA, pqB, pqC]
   refine wpAnyH_ready (rs := [5]) (by kernel_rfl) (by simp) ?_
   refine AllReadyH.cons (o := ⟨some 68, Op.load 41 (Operand.tmp 67), 41, _, _, none⟩) rfl (fun K hK => ?_) AllReadyH.nil
   rw [if_pos (by rfl)]
   have cl : w4.cell? ⟨g, t * 3 + 1, none⟩ = some (.slice xa f.bs.length xc) := (own_fc JD4.out.own HX2.out).1
   refine wp_val (.slice xa f.bs.length xc) (by go_simp) ?_
   clear cl
   refine hK _ _ (own_fc JD4.out.own HX2.out).2 fun hL4 => ?_
   clear hK
   simp only [Act.put, pqA, pqB, pqC]
   refine tkS (i := 10) (oi := ⟨some 73, Op.slice 41 (Operand.tmp 68) none (some (Operand.tmp 72)) none, 41, _, _, none⟩) (v := vs) rfl (yieldsIf_slice (by rfl) 41 (.tmp 68) (.tmp 72) rfl (.slice xa f.bs.length xc) (.int .i64 (m : Int)) vs rfl rfl HS1.out) hL4 ?_
   refine wpAnyH_ready (rs := [11]) (by kernel_rfl) (by simp) ?_
   refine AllReadyH.cons (o := ⟨some 74, Op.call { callee := Callee.builtin Builtin.append, args := #[Operand.tmp 64, Operand.tmp 73], argTypes := #[41, 41] }, 41, _, _, none⟩) rfl (fun K hK => ?_) AllReadyH.nil
   rw [if_pos (by rfl)]
   refine wp_app (.tmp 64) (.tmp 73) rfl (.slice (some ⟨ge, 0, none⟩) 0 0) vs [] (f.bs.take m) rfl rfl HE4.out (HS2.out w4 (HR3.out.below B4.out)) (by have := HB.out; simp; omega) fun v9 w9 hp => ?_
   have HV9 : Keep (Own w9 v9 (f.bs.take m)) := ⟨by have h := hp.1; rw [List.nil_append] at h; exact h⟩
   have N9 : Keep (∀ k, v9.ownBlock = some k → w3.heap.size ≤ k) := ⟨own_new hp B4.out.size fun k hk => by have e : ge = k := Option.some.inj hk; have := hge.out; omega⟩
   have B9 : Keep (Below w3.heap.size w3 w9) := ⟨B4.out.trans (hp.grown.to_below (B := w3.heap.size) (fun k hk e => by have e : ge = k := Option.some.inj e; have := hge.out; omega) B4.out.size)⟩
   have JD9 := Keep.mk (JD3.out.below B9.out)
   clear hp
   obtain ⟨a9, n9, k9, e9⟩ := HV9.out.sl
   subst e9
   refine hK _ _ (own_fc JD9.out.own HX2.out).2 fun hA9 => ?_
   clear hK
   simp only [Act.put, pqA, pqB, pqC]
   refine tkS (i := 12) (oi := ⟨some 75, Op.nilCheck (Operand.tmp 63), 0, _, _, none⟩) (v := .pointer (some ⟨g, t * 3, none⟩)) rfl (Or.inl ⟨by rfl, fun w hS => by go_simp⟩) hA9 ?_
   refine tkS (i := 13) (oi := ⟨some 76, Op.fieldAddr 72 (Operand.tmp 75) 1, 0, _, _, none⟩) (v := .pointer (some ⟨g, t * 3 + 1, none⟩)) rfl (Or.inl ⟨by rfl, fun w hS => by go_simp⟩) hA9 ?_
   refine wpAnyH_ready (rs := [14]) (by kernel_rfl) (by simp) ?_
   refine AllReadyH.cons (o := ⟨none, Op.store 41 (Operand.tmp 76) (Operand.tmp 74), 0, _, _, none⟩) rfl (fun K hK => ?_) AllReadyH.nil
   rw [if_pos (by rfl)]
   have f_o : w9.frozen? ⟨g, t * 3 + 1, none⟩ = false := ownF_frozen JD9.out.own _
   have cl := (own_fc JD9.out.own HX2.out).1
   refine wp_cellS (w9.setCell ⟨g, t * 3 + 1, none⟩ (.slice a9 n9 k9)) (by go_simp) ?_
   clear f_o cl
   have JD10 : Keep (DskAt (w9.setCell ⟨g, t * 3 + 1, none⟩ (.slice a9 n9 k9)) p (.slice (some ⟨g, 0, none⟩) cs.length vc) (c2.set t (⟨xn, .slice a9 n9 k9, (m : Int)⟩ : FC)) { D2 with fs := D2.fs.set t ({ nm := f.nm, bs := f.bs.take m, sf := (m : Int) } : PF) }) := ⟨dsk_newb JD3.out HX2.out HF3.out B9.out HV9.out N9.out⟩
   have HX10 : Keep ((c2.set t (⟨xn, .slice a9 n9 k9, (m : Int)⟩ : FC))[t]? = some (⟨xn, .slice a9 n9 k9, (m : Int)⟩ : FC)) := ⟨List.getElem?_set_self (List.getElem?_eq_some_iff.1 HX2.out).1⟩
   have G10 : Keep (Grown w (w9.setCell ⟨g, t * 3 + 1, none⟩ (.slice a9 n9 k9)) (fun k => k = p ∨ (Value.slice (some ⟨g, 0, none⟩) cs.length vc).ownBlock = some k)) := ⟨(G3.out.trans (Grown.below B9.out)).trans (Grown.setCell w9 g _ _ fun _ => .inr rfl)⟩
   have N10 : Keep (∀ k, (Value.slice a9 n9 k9).ownBlock = some k → w.heap.size ≤ k) := ⟨fun k hk => Nat.le_trans G3.out.size (N9.out k hk)⟩
   clear JD9 JD3 G3 B9 HV9 N9 JD4 HE4 B4 HS1 HS2 HR3
   generalize (w9.setCell ⟨g, t * 3 + 1, none⟩ (.slice a9 n9 k9)) = w10 at *
   refine hK _ _ (own_fc JD10.out.own HX10.out).2 fun hS10 => ?_
   clear hK
   simp only [Act.put, pqA, pqB, pqC]
   refine wpAnyH_done (by kernel_rfl) ?_ _
   rotate_left
   rw [if_pos (by rfl)]
   have cl : w3.cell? ⟨g, t * 3 + 1, none⟩ = some (.slice xa f.bs.length xc) := (own_fc JD3.out.own HX2.out).1
   refine wp_val (.slice xa f.bs.length xc) (by go_simp) ?_
   clear cl
   refine hK _ _ (own_fc JD3.out.own HX2.out).2 fun hL3 => ?_
   clear hK
   simp only [Act.put, pqA, pqB, pqC]
   refine tkS (i := 10) (oi := ⟨some 73, Op.slice 41 (Operand.tmp 68) none (some (Operand.tmp 72)) none, 41, _, _, none⟩) (v := vs) rfl (yieldsIf_slice (by rfl) 41 (.tmp 68) (.tmp 72) rfl (.slice xa f.bs.length xc) (.int .i64 (m : Int)) vs rfl rfl HS1.out) hL3 ?_
   refine wpAnyH_ready (rs := [1]) (by kernel_rfl) (by simp) ?_
   refine AllReadyH.cons (o := ⟨some 64, Op.buildSlice 41 0 #[], 41, _, _, none⟩) rfl (fun K hK => ?_) AllReadyH.nil
   rw [if_pos (by rfl)]
   refine wp_bsj 41 0 _ rfl #[] (by simp) _ _ (bsBE w3) ?_
   have hbx := below_new w3 (.cells #[] 5)
   have HE4 : Keep (Own (w3.alloc (.cells #[] 5)) (.slice (some ⟨w3.heap.size, 0, none⟩) 0 0) []) := ⟨own_empty _ _ (Blk.new w3 5 #[])⟩
   have JD4 := Keep.mk (JD3.out.below hbx)
   have B4 := Keep.mk hbx
   clear hbx
   generalize w3.alloc (.cells #[] 5) = w4 at *
   obtain ⟨ge, hge⟩ : ∃ q, Keep (q = w3.heap.size) := ⟨_, ⟨rfl⟩⟩
   rw [← hge.out] at HE4 ⊢
   refine hK _ _ (own_fc JD4.out.own HX2.out).2 fun hB4 => ?_
   clear hK
   simp only [Act.put, pqA, pqB, pqC]
   refine wpAnyH_ready (rs := [11]) (by kernel_rfl) (by simp) ?_
   refine AllReadyH.cons (o := ⟨some 74, Op.call { callee := Callee.builtin Builtin.append, args := #[Operand.tmp 64, Operand.tmp 73], argTypes := #[41, 41] }, 41, _, _, none⟩) rfl (fun K hK => ?_) AllReadyH.nil
   rw [if_pos (by rfl)]
   refine wp_app (.tmp 64) (.tmp 73) rfl (.slice (some ⟨ge, 0, none⟩) 0 0) vs [] (f.bs.take m) rfl rfl HE4.out (HS2.out w4 (HR3.out.below B4.out)) (by have := HB.out; simp; omega) fun v9 w9 hp => ?_
   have HV9 : Keep (Own w9 v9 (f.bs.take m)) := ⟨by have h := hp.1; rw [List.nil_append] at h; exact h⟩
   have N9 : Keep (∀ k, v9.ownBlock = some k → w3.heap.size ≤ k) := ⟨own_new hp B4.out.size fun k hk => by have e : ge = k := Option.some.inj hk; have := hge.out; omega⟩
   have B9 : Keep (Below w3.heap.size w3 w9) := ⟨B4.out.trans (hp.grown.to_below (B := w3.heap.size) (fun k hk e => by have e : ge = k := Option.some.inj e; have := hge.out; omega) B4.out.size)⟩
   have JD9 := Keep.mk (JD3.out.below B9.out)
   clear hp
   obtain ⟨a9, n9, k9, e9⟩ := HV9.out.sl
   subst e9
   refine hK _ _ (own_fc JD9.out.own HX2.out).2 fun hA9 => ?_
   clear hK
   simp only [Act.put, pqA, pqB, pqC]
   refine tkS (i := 12) (oi := ⟨some 75, Op.nilCheck (Operand.tmp 63), 0, _, _, none⟩) (v := .pointer (some ⟨g, t * 3, none⟩)) rfl (Or.inl ⟨by rfl, fun w hS => by go_simp⟩) hA9 ?_
   refine tkS (i := 13) (oi := ⟨some 76, Op.fieldAddr 72 (Operand.tmp 75) 1, 0, _, _, none⟩) (v := .pointer (some ⟨g, t * 3 + 1, none⟩)) rfl (Or.inl ⟨by rfl, fun w hS => by go_simp⟩) hA9 ?_
   refine wpAnyH_ready (rs := [14]) (by kernel_rfl) (by simp) ?_
   refine AllReadyH.cons (o := ⟨none, Op.store 41 (Operand.tmp 76) (Operand.tmp 74), 0, _, _, none⟩) rfl (fun K hK => ?_) AllReadyH.nil
   rw [if_pos (by rfl)]
   have f_o : w9.frozen? ⟨g, t * 3 + 1, none⟩ = false := ownF_frozen JD9.out.own _
   have cl := (own_fc JD9.out.own HX2.out).1
   refine wp_cellS (w9.setCell ⟨g, t * 3 + 1, none⟩ (.slice a9 n9 k9)) (by go_simp) ?_
   clear f_o cl
   have JD10 : Keep (DskAt (w9.setCell ⟨g, t * 3 + 1, none⟩ (.slice a9 n9 k9)) p (.slice (some ⟨g, 0, none⟩) cs.length vc) (c2.set t (⟨xn, .slice a9 n9 k9, (m : Int)⟩ : FC)) { D2 with fs := D2.fs.set t ({ nm := f.nm, bs := f.bs.take m, sf := (m : Int) } : PF) }) := ⟨dsk_newb JD3.out HX2.out HF3.out B9.out HV9.out N9.out⟩
   have HX10 : Keep ((c2.set t (⟨xn, .slice a9 n9 k9, (m : Int)⟩ : FC))[t]? = some (⟨xn, .slice a9 n9 k9, (m : Int)⟩ : FC)) := ⟨List.getElem?_set_self (List.getElem?_eq_some_iff.1 HX2.out).1⟩
   have G10 : Keep (Grown w (w9.setCell ⟨g, t * 3 + 1, none⟩ (.slice a9 n9 k9)) (fun k => k = p ∨ (Value.slice (some ⟨g, 0, none⟩) cs.length vc).ownBlock = some k)) := ⟨(G3.out.trans (Grown.below B9.out)).trans (Grown.setCell w9 g _ _ fun _ => .inr rfl)⟩
   have N10 : Keep (∀ k, (Value.slice a9 n9 k9).ownBlock = some k → w.heap.size ≤ k) := ⟨fun k hk => Nat.le_trans G3.out.size (N9.out k hk)⟩
   clear JD9 JD3 G3 B9 HV9 N9 JD4 HE4 B4 HS1 HS2 HR3
   generalize (w9.setCell ⟨g, t * 3 + 1, none⟩ (.slice a9 n9 k9)) = w10 at *
   refine hK _ _ (own_fc JD10.out.own HX10.out).2 fun hS10 => ?_
   clear hK
   simp only [Act.put, pqA, pqB, pqC]
   refine wpAnyH_done (by kernel_rfl) ?_ _
   rotate_left
   all_goals
    refine hK15 _ _ ?_
    have JD11 : Keep (DskAt w10.drew p (.slice (some ⟨g, 0, none⟩) cs.length vc) (c2.set t (⟨xn, .slice a9 n9 k9, (m : Int)⟩ : FC)) { D2 with fs := D2.fs.set t ({ nm := f.nm, bs := f.bs.take m, sf := (m : Int) } : PF) }) := ⟨JD10.out.grown (Grown.refl w10 (fun _ => False)).drew fun _ _ h => h⟩
    have G11 : Keep (Grown w w10.drew (fun k => k = p ∨ (Value.slice (some ⟨g, 0, none⟩) cs.length vc).ownBlock = some k)) := ⟨G10.out.drew⟩
    have hgp : Keep (g ≠ p) := ⟨fun e => JD11.out.own.ne JD11.out.blk (by decide) (by rw [e]; rfl)⟩
    have hwu : IntKind.i64.wrap (D2.used + (m : Int)) = D2.used + (m : Int) := by rw [IntKind.wrap_i64]; have := HUt.out; have := HU3.out; have := HM.out; have := HB.out; omega
    clear JD10 G10
    refine wp_region_held_drew (S := fun wx => wx.cell? ⟨g, t * 3 + 2, none⟩ = some (.int .i64 (m : Int))) (by kernel_rfl) (own_fc JD11.out.own HX10.out).2 (fun hHeld => ?_)
    generalize w10.drew = w11 at *
    refine tkS (i := 0) (oi := ⟨some 77, Op.move (Operand.tmp 4), 48, _, _, none⟩) (v := .pointer (some ⟨p, 0, none⟩)) rfl (Or.inl ⟨by rfl, fun w hS => by go_simp⟩) hHeld ?_
    refine tkS (i := 1) (oi := ⟨some 78, Op.nilCheck (Operand.tmp 77), 0, _, _, none⟩) (v := .pointer (some ⟨p, 0, none⟩)) rfl (Or.inl ⟨by rfl, fun w hS => by go_simp⟩) hHeld ?_
    refine tkS (i := 2) (oi := ⟨some 79, Op.fieldAddr 51 (Operand.tmp 78) 2, 0, _, _, none⟩) (v := .pointer (some ⟨p, 2, none⟩)) rfl (Or.inl ⟨by rfl, fun w hS => by go_simp⟩) hHeld ?_
    refine tkS (i := 4) (oi := ⟨some 81, Op.move (Operand.tmp 6), 70, _, _, none⟩) (v := .pointer (some ⟨g, t * 3, none⟩)) rfl (Or.inl ⟨by rfl, fun w hS => by go_simp⟩) hHeld ?_
    refine tkS (i := 5) (oi := ⟨some 82, Op.nilCheck (Operand.tmp 81), 0, _, _, none⟩) (v := .pointer (some ⟨g, t * 3, none⟩)) rfl (Or.inl ⟨by rfl, fun w hS => by go_simp⟩) hHeld ?_
    refine tkS (i := 6) (oi := ⟨some 83, Op.fieldAddr 72 (Operand.tmp 82) 2, 0, _, _, none⟩) (v := .pointer (some ⟨g, t * 3 + 2, none⟩)) rfl (Or.inl ⟨by rfl, fun w hS => by go_simp⟩) hHeld ?_
    refine tkS (i := 7) (oi := ⟨some 84, Op.load 3 (Operand.tmp 83), 3, _, _, none⟩) (v := .int .i64 (m : Int)) rfl (Or.inl ⟨by rfl, fun w hS => by go_simp⟩) hHeld ?_
    refine wpAnyH_ready (rs := [3]) (by kernel_rfl) (by simp) ?_
    refine AllReadyH.cons (o := ⟨some 80, Op.load 3 (Operand.tmp 79), 3, _, _, none⟩) rfl (fun K hK => ?_) AllReadyH.nil
    rw [if_pos (by rfl)]
    have cl : w11.cell? ⟨p, 2, none⟩ = some (.int .i64 D2.used) := JD11.out.blk.c 2 rfl
    refine wp_val (.int .i64 D2.used) (by go_simp) ?_
    clear cl
    refine hK _ _ (own_fc JD11.out.own HX10.out).2 fun hH1 => ?_
    clear hK
    simp only [Act.put, pqA, pqB, pqC]
    refine tkS (i := 8) (oi := ⟨some 85, Op.binOp BinOp.add 3 (Operand.tmp 80) (Operand.tmp 84) 3, 3, _, _, none⟩) (v := .int .i64 (D2.used + (m : Int))) rfl (Or.inl ⟨by rfl, fun w hS => by go_simp⟩) hH1 ?_
    refine tkS (i := 9) (oi := ⟨some 86, Op.nilCheck (Operand.tmp 77), 0, _, _, none⟩) (v := .pointer (some ⟨p, 0, none⟩)) rfl (Or.inl ⟨by rfl, fun w hS => by go_simp⟩) hH1 ?_
    refine tkS (i := 10) (oi := ⟨some 87, Op.fieldAddr 51 (Operand.tmp 86) 2, 0, _, _, none⟩) (v := .pointer (some ⟨p, 2, none⟩)) rfl (Or.inl ⟨by rfl, fun w hS => by go_simp⟩) hH1 ?_
    refine wpAnyH_ready (rs := [11]) (by kernel_rfl) (by simp) ?_
    refine AllReadyH.cons (o := ⟨none, Op.store 3 (Operand.tmp 87) (Operand.tmp 85), 0, _, _, none⟩) rfl (fun K hK => ?_) AllReadyH.nil
    rw [if_pos (by rfl)]
    have f_o := JD11.out.blk.frozen 2
    have cl : w11.cell? ⟨p, 2, none⟩ = some (.int .i64 D2.used) := JD11.out.blk.c 2 rfl
    refine wp_cellS (w11.setCell ⟨p, 2, none⟩ (.int .i64 (D2.used + (m : Int)))) (by go_simp) ?_
    clear f_o cl
    have JD12 : Keep (DskAt (w11.setCell ⟨p, 2, none⟩ (.int .i64 (D2.used + (m : Int)))) p (.slice (some ⟨g, 0, none⟩) cs.length vc) (c2.set t (⟨xn, .slice a9 n9 k9, (m : Int)⟩ : FC)) { D2 with fs := D2.fs.set t ({ nm := f.nm, bs := f.bs.take m, sf := (m : Int) } : PF), used := D2.used + (m : Int) }) := ⟨JD11.out.put rfl rfl⟩
    have G12 : Keep (Grown w (w11.setCell ⟨p, 2, none⟩ (.int .i64 (D2.used + (m : Int)))) (fun k => k = p ∨ (Value.slice (some ⟨g, 0, none⟩) cs.length vc).ownBlock = some k)) := ⟨G11.out.trans (Grown.setCell w11 p 2 _ fun _ => .inl rfl)⟩
    clear JD11 G11 hwu
    generalize (w11.setCell ⟨p, 2, none⟩ (.int .i64 (D2.used + (m : Int)))) = w12 at *
    refine hK _ _ (own_fc JD12.out.own HX10.out).2 fun hS12 => ?_
    clear hK
    simp only [Act.put, pqA, pqB, pqC]
    refine wpAnyH_done (by kernel_rfl) ?_ _
    refine hK7 _ _ ?_
    refine rgn ?_
    refine VlS (.int .i64 ((t : Int) + 1)) ?_
    refine VlS (.int .i64 ((t : Int) + 1)) ?_
    refine WL.nil ?_
    refine ⟨⟨t + 1, fun zz => [.pointer (some ⟨h, 0, none⟩), .slice (some ⟨q, ko, none⟩) kp.length kc, undef, undef, .pointer (some ⟨p, 0, none⟩), .int .i64 (t : Int), .pointer (some ⟨g, t * 3, none⟩), .int .i64 nn, .int .i64 kk, .pointer (some ⟨h, 0, none⟩), .pointer (some ⟨h, 0, none⟩), .pointer (some ⟨h, 0, none⟩), .pointer (some ⟨p, 0, none⟩), .pointer (some ⟨p, 0, none⟩), .pointer (some ⟨p, 0, none⟩), .pointer (some ⟨p, 2, none⟩), .pointer (some ⟨p, 0, none⟩), .pointer (some ⟨p, 0, none⟩), .pointer (some ⟨p, 0, none⟩), .slice (some ⟨g, 0, none⟩) cs.length vc, .int .i64 (cs.length : Int), .int .i64 ((t : Int) + 1), .bool true, .int .i64 (t : Int), .pointer (some ⟨p, 0, none⟩), .pointer (some ⟨p, 0, none⟩), .pointer (some ⟨p, 0, none⟩), .slice (some ⟨g, 0, none⟩) cs.length vc, .int .i64 (t : Int), .pointer (some ⟨g, t * 3, none⟩), .int .i64 (t : Int), .slice (some ⟨q, ko, none⟩) kp.length kc, .int .i64 (kp.length : Int), .bool true, .pointer (some ⟨g, t * 3, none⟩), .pointer (some ⟨g, t * 3, none⟩), .pointer (some ⟨g, t * 3 + 1, none⟩), .slice xa f.bs.length xc, .int .i64 (f.bs.length : Int), .pointer (some ⟨g, t * 3, none⟩), .pointer (some ⟨g, t * 3, none⟩), .pointer (some ⟨g, t * 3 + 2, none⟩), .int .i64 xs, .int .i64 mm, .int .i64 kk, .slice (some ⟨q, ko, none⟩) kp.length kc, .int .i64 (t : Int), .pointer (some ⟨q, ko + t, none⟩), .int .i64 kv, .int .i64 kk, .int .i64 (Int.tmod kv kk), .int .i64 kk, .int .i64 r2, .int .i64 kk, .int .i64 nn, .pointer (some ⟨g, t * 3, none⟩), .pointer (some ⟨g, t * 3, none⟩), .pointer (some ⟨g, t * 3 + 2, none⟩), .int .i64 xs, .int .i64 nn, .int .i64 (m : Int), .pointer (some ⟨g, t * 3, none⟩), .pointer (some ⟨g, t * 3 + 2, none⟩), .pointer (some ⟨g, t * 3, none⟩), .slice (some ⟨ge, 0, none⟩) 0 0, .pointer (some ⟨g, t * 3, none⟩), .pointer (some ⟨g, t * 3, none⟩), .pointer (some ⟨g, t * 3 + 1, none⟩), .slice xa f.bs.length xc, .pointer (some ⟨g, t * 3, none⟩), .pointer (some ⟨g, t * 3, none⟩), .pointer (some ⟨g, t * 3 + 2, none⟩), .int .i64 (m : Int), vs, .slice a9 n9 k9, .pointer (some ⟨g, t * 3, none⟩), .pointer (some ⟨g, t * 3 + 1, none⟩), .pointer (some ⟨p, 0, none⟩), .pointer (some ⟨p, 0, none⟩), .pointer (some ⟨p, 2, none⟩), .int .i64 D2.used, .pointer (some ⟨g, t * 3, none⟩), .pointer (some ⟨g, t * 3, none⟩), .pointer (some ⟨g, t * 3 + 2, none⟩), .int .i64 (m : Int), .int .i64 (D2.used + (m : Int)), .pointer (some ⟨p, 0, none⟩), .pointer (some ⟨p, 2, none⟩), .int .i64 ((t : Int) + 1), undef, undef, undef, undef, undef, undef].getD zz undef, c2.set t (⟨xn, .slice a9 n9 k9, (m : Int)⟩ : FC), _, rfl, by omega, by rw [hc2.out, List.length_set, List.length_set]; exact JC.out, JD12.out, ?_, G12.out, ?_⟩, ?_⟩
    ·have hcr : f.crash (kpN kp t f) = ({ nm := f.nm, bs := f.bs.take m, sf := (m : Int) } : PF) := by
      have e : f.sf + kpN kp t f = (m : Int) := by rw [← HXs.out, ← HN.out]; exact hm.out.symm
      unfold PF.crash
      rw [e, Int.toNat_natCast]
     have hLt : t < (crT kp t D.fs).length := by rw [crT_len]; exact hLD
     rw [crT_step kp t D.fs f HFd.out, hcr, usd_step _ _ _ hLt]
     have e1 : D2.fs.set t ({ nm := f.nm, bs := f.bs.take m, sf := (m : Int) } : PF) = (crT kp t D.fs).set t ({ nm := f.nm, bs := f.bs.take m, sf := (m : Int) } : PF) := by rw [hD2.out, JE.out]; exact List.set_set ..
     have e2 : D2.used = usd ((crT kp t D.fs).take t) := by rw [HU3.out, JE.out]
     have e3 : ((f.bs.take m).length : Int) = (m : Int) := by rw [List.length_take]; have := HM.out; omega
     rw [e1, e2]
     show _ = _
     rw [hD2.out, JE.out]
     simp only [e3]
    ·intro k hk
     have h1 := dskS_newb (B := w.heap.size) HX2.out N10.out k hk
     rcases h1 with h1 | h1
     ·rw [hc2.out] at h1
      exact JS.out k (dskS_sync (x := (⟨xn, .slice xa f.bs.length xc, xs⟩ : FC)) HX.out h1)
     ·exact .inr h1
    ·simp only [intOf]; show cs.length - ((t : Int) + 1).toNat < cs.length - ((t : Int)).toNat; omega
  ·skip
   refine VlS (.bool false) ?_
   refine WL.nil (hK12 _ _ ?_)
   refine wp_cond_false rfl ?_
   refine wp_skip ?_
   refine hK11 _ _ ?_
   refine wp_seq_k fun K17 hK17 => ?_
   obtain ⟨nn, hnn⟩ : ∃ z, Keep (z = (0 : Int)) := ⟨_, ⟨rfl⟩⟩
   have HN : Keep (nn = kpN kp t f) := ⟨by unfold kpN; rw [if_neg (by omega), hnn.out]⟩
   rw [← hnn.out]
   clear p0 hnn
   have HNb : Keep (0 ≤ nn ∧ nn ≤ (f.bs.length : Int) - xs) := ⟨by have h := HB.out; rw [HN.out, HXs.out]; rw [HXs.out] at h; exact kpN_le kp t f ⟨h.1, h.2.1⟩⟩
   obtain ⟨m, hm⟩ : ∃ m : Nat, Keep ((m : Int) = xs + nn) := ⟨(xs + nn).toNat, ⟨by have := HB.out; have := HNb.out; omega⟩⟩
   have hws : IntKind.i64.wrap (xs + nn) = (m : Int) := by have := hm.out; have := HB.out; have := HNb.out; rw [IntKind.wrap_i64]; omega
   have c2 := (own_fc JD.out.own HX.out).2
   change wr.cell? ⟨g, t * 3 + 2, none⟩ = some (.int .i64 xs) at c2
   have f_o : wr.frozen? ⟨g, t * 3 + 2, none⟩ = false := ownF_frozen JD.out.own _
   refine rgn ?_
   refine VlS (.pointer (some ⟨g, t * 3, none⟩)) ?_
   refine VlS (.pointer (some ⟨g, t * 3, none⟩)) ?_
   refine VlS (.pointer (some ⟨g, t * 3 + 2, none⟩)) ?_
   refine VlS (.int .i64 xs) ?_
   refine VlS (.int .i64 nn) ?_
   refine VlS (.int .i64 (m : Int)) ?_
   refine VlS (.pointer (some ⟨g, t * 3, none⟩)) ?_
   refine VlS (.pointer (some ⟨g, t * 3 + 2, none⟩)) ?_
   refine WL.cell (by kernel_rfl) (wr.setCell ⟨g, t * 3 + 2, none⟩ (.int .i64 (m : Int))) (by go_simp) ?_
   have JD2 : Keep (DskAt (wr.setCell ⟨g, t * 3 + 2, none⟩ (.int .i64 (m : Int))) p (.slice (some ⟨g, 0, none⟩) cs.length vc) (ct.set t ⟨xn, .slice xa f.bs.length xc, (m : Int)⟩) { Dt with fs := Dt.fs.set t { f with sf := (m : Int) } }) := ⟨dsk_sf (z := (m : Int)) JD.out HX.out HFt.out⟩
   have G2 : Keep (Grown w (wr.setCell ⟨g, t * 3 + 2, none⟩ (.int .i64 (m : Int))) (fun k => k = p ∨ (Value.slice (some ⟨g, 0, none⟩) cs.length vc).ownBlock = some k)) := ⟨JG.out.trans (Grown.setCell wr g _ _ fun _ => .inr rfl)⟩
   have HM : Keep (m ≤ f.bs.length) := ⟨by have := hm.out; have := HB.out; have := HNb.out; omega⟩
   have HX2 : Keep ((ct.set t (⟨xn, .slice xa f.bs.length xc, (m : Int)⟩ : FC))[t]? = some (⟨xn, .slice xa f.bs.length xc, (m : Int)⟩ : FC)) := ⟨List.getElem?_set_self (List.getElem?_eq_some_iff.1 HX.out).1⟩
   have HF2 : Keep ((Dt.fs.set t { f with sf := (m : Int) })[t]? = some ({ f with sf := (m : Int) } : PF)) := ⟨List.getElem?_set_self (List.getElem?_eq_some_iff.1 HFt.out).1⟩
   clear c2 f_o hws JD JG
   generalize (wr.setCell ⟨g, t * 3 + 2, none⟩ (.int .i64 (m : Int))) = w2 at *
   obtain ⟨D2, hD2⟩ : ∃ z : DV, Keep (z = { Dt with fs := Dt.fs.set t { f with sf := (m : Int) } }) := ⟨_, ⟨rfl⟩⟩
   have HF3 : Keep (D2.fs[t]? = some ({ f with sf := (m : Int) } : PF)) := ⟨by rw [hD2.out]; exact HF2.out⟩
   have HU3 : Keep (D2.used = Dt.used) := ⟨by rw [hD2.out]⟩
   rw [← hD2.out] at JD2
   obtain ⟨c2, hc2⟩ : ∃ z : List FC, Keep (z = ct.set t ⟨xn, .slice xa f.bs.length xc, (m : Int)⟩) := ⟨_, ⟨rfl⟩⟩
   rw [← hc2.out] at JD2 HX2
   clear HF2
   simp only [Act.put]
   refine WL.nil (hK17 _ _ ?_)
   refine wp_seq_k fun K18 hK18 => ?_
   have JD3 : Keep (DskAt w2.drew p (.slice (some ⟨g, 0, none⟩) cs.length vc) c2 D2) := ⟨JD2.out.grown (Grown.refl w2 (fun _ => False)).drew fun _ _ h => h⟩
   have G3 : Keep (Grown w w2.drew (fun k => k = p ∨ (Value.slice (some ⟨g, 0, none⟩) cs.length vc).ownBlock = some k)) := ⟨G2.out.drew⟩
   clear JD2 G2
   have HR3 : Keep (RowAt w2.drew (.slice xa f.bs.length xc) f.bs) := ⟨(JD3.out.fcs.each t _ _ HX2.out HF3.out).2.2.row⟩
   obtain ⟨vs, hs1, hs2⟩ := sub_any (.slice xa f.bs.length xc) f.bs w2.drew HR3.out m HM.out
   have HS1 := Keep.mk hs1
   have HS2 := Keep.mk hs2
   clear hs1 hs2
   refine wp_region_held_drew (S := fun wx => wx.cell? ⟨g, t * 3 + 2, none⟩ = some (.int .i64 (m : Int))) (by kernel_rfl) (own_fc JD3.out.own HX2.out).2 (fun hHeld => ?_)
   generalize w2.drew = w3 at *
   refine tkS (i := 0) (oi := ⟨some 63, Op.move (Operand.tmp 6), 70, _, _, none⟩) (v := .pointer (some ⟨g, t * 3, none⟩)) rfl (Or.inl ⟨by rfl, fun w hS => by go_simp⟩) hHeld ?_
   refine tkS (i := 2) (oi := ⟨some 65, Op.move (Operand.tmp 6), 70, _, _, none⟩) (v := .pointer (some ⟨g, t * 3, none⟩)) rfl (Or.inl ⟨by rfl, fun w hS => by go_simp⟩) hHeld ?_
   refine tkS (i := 3) (oi := ⟨some 66, Op.nilCheck (Operand.tmp 65), 0, _, _, none⟩) (v := .pointer (some ⟨g, t * 3, none⟩)) rfl (Or.inl ⟨by rfl, fun w hS => by go_simp⟩) hHeld ?_
   refine tkS (i := 4) (oi := ⟨some 67, Op.fieldAddr 72 (Operand.tmp 66) 1, 0, _, _, none⟩) (v := .pointer (some ⟨g, t * 3 + 1, none⟩)) rfl (Or.inl ⟨by rfl, fun w hS => by go_simp⟩) hHeld ?_
   refine tkS (i := 6) (oi := ⟨some 69, Op.move (Operand.tmp 6), 70, _, _, none⟩) (v := .pointer (some ⟨g, t * 3, none⟩)) rfl (Or.inl ⟨by rfl, fun w hS => by go_simp⟩) hHeld ?_
   refine tkS (i := 7) (oi := ⟨some 70, Op.nilCheck (Operand.tmp 69), 0, _, _, none⟩) (v := .pointer (some ⟨g, t * 3, none⟩)) rfl (Or.inl ⟨by rfl, fun w hS => by go_simp⟩) hHeld ?_
   refine tkS (i := 8) (oi := ⟨some 71, Op.fieldAddr 72 (Operand.tmp 70) 2, 0, _, _, none⟩) (v := .pointer (some ⟨g, t * 3 + 2, none⟩)) rfl (Or.inl ⟨by rfl, fun w hS => by go_simp⟩) hHeld ?_
   refine tkS (i := 9) (oi := ⟨some 72, Op.load 3 (Operand.tmp 71), 3, _, _, none⟩) (v := .int .i64 (m : Int)) rfl (Or.inl ⟨by rfl, fun w hS => by go_simp⟩) hHeld ?_
   refine wpAnyH_ready (rs := [1, 5]) (by kernel_rfl) (by simp) ?_
   refine AllReadyH.cons (o := ⟨some 64, Op.buildSlice 41 0 #[], 41, _, _, none⟩) rfl (fun K hK => ?_) (AllReadyH.cons (o := ⟨some 68, Op.load 41 (Operand.tmp 67), 41, _, _, none⟩) rfl (fun K hK => ?_) AllReadyH.nil)
   rw [if_pos (by rfl)]
   refine wp_bsj 41 0 _ rfl #[] (by simp) _ _ (bsBE w3) ?_
   have hbx := below_new w3 (.cells #[] 5)
   have HE4 : Keep (Own (w3.alloc (.cells #[] 5)) (.slice (some ⟨w3.heap.size, 0, none⟩) 0 0) []) := ⟨own_empty _ _ (Blk.new w3 5 #[])⟩
   have JD4 := Keep.mk (JD3.out.below hbx)
   have B4 := Keep.mk hbx
   clear hbx
   generalize w3.alloc (.cells #[] 5) = w4 at *
   obtain ⟨ge, hge⟩ : ∃ q, Keep (q = w3.heap.size) := ⟨_, ⟨rfl⟩⟩
   rw [← hge.out] at HE4 ⊢
   refine hK _ _ (own_fc JD4.out.own HX2.out).2 fun hB4 => ?_
   clear hK
   simp only [Act.put, pqA, pqB, pqC]
   refine wpAnyH_ready (rs := [5]) (by kernel_rfl) (by simp) ?_
   refine AllReadyH.cons (o := ⟨some 68, Op.load 41 (Operand.tmp 67), 41, _, _, none⟩) rfl (fun K hK => ?_) AllReadyH.nil
   rw [if_pos (by rfl)]
   have cl : w4.cell? ⟨g, t * 3 + 1, none⟩ = some (.slice xa f.bs.length xc) := (own_fc JD4.out.own HX2.out).1
   refine wp_val (.slice xa f.bs.length xc) (by go_simp) ?_
   clear cl
   refine hK _ _ (own_fc JD4.out.own HX2.out).2 fun hL4 => ?_
   clear hK
   simp only [Act.put, pqA, pqB, pqC]
   refine tkS (i := 10) (oi := ⟨some 73, Op.slice 41 (Operand.tmp 68) none (some (Operand.tmp 72)) none, 41, _, _, none⟩) (v := vs) rfl (yieldsIf_slice (by rfl) 41 (.tmp 68) (.tmp 72) rfl (.slice xa f.bs.length xc) (.int .i64 (m : Int)) vs rfl rfl HS1.out) hL4 ?_
   refine wpAnyH_ready (rs := [11]) (by kernel_rfl) (by simp) ?_
   refine AllReadyH.cons (o := ⟨some 74, Op.call { callee := Callee.builtin Builtin.append, args := #[Operand.tmp 64, Operand.tmp 73], argTypes := #[41, 41] }, 41, _, _, none⟩) rfl (fun K hK => ?_) AllReadyH.nil
   rw [if_pos (by rfl)]
   refine wp_app (.tmp 64) (.tmp 73) rfl (.slice (some ⟨ge, 0, none⟩) 0 0) vs [] (f.bs.take m) rfl rfl HE4.out (HS2.out w4 (HR3.out.below B4.out)) (by have := HB.out; simp; omega) fun v9 w9 hp => ?_
   have HV9 : Keep (Own w9 v9 (f.bs.take m)) := ⟨by have h := hp.1; rw [List.nil_append] at h; exact h⟩
   have N9 : Keep (∀ k, v9.ownBlock = some k → w3.heap.size ≤ k) := ⟨own_new hp B4.out.size fun k hk => by have e : ge = k := Option.some.inj hk; have := hge.out; omega⟩
   have B9 : Keep (Below w3.heap.size w3 w9) := ⟨B4.out.trans (hp.grown.to_below (B := w3.heap.size) (fun k hk e => by have e : ge = k := Option.some.inj e; have := hge.out; omega) B4.out.size)⟩
   have JD9 := Keep.mk (JD3.out.below B9.out)
   clear hp
   obtain ⟨a9, n9, k9, e9⟩ := HV9.out.sl
   subst e9
   refine hK _ _ (own_fc JD9.out.own HX2.out).2 fun hA9 => ?_
   clear hK
   simp only [Act.put, pqA, pqB, pqC]
   refine tkS (i := 12) (oi := ⟨some 75, Op.nilCheck (Operand.tmp 63), 0, _, _, none⟩) (v := .pointer (some ⟨g, t * 3, none⟩)) rfl (Or.inl ⟨by rfl, fun w hS => by go_simp⟩) hA9 ?_
   refine tkS (i := 13) (oi := ⟨some 76, Op.fieldAddr 72 (Operand.tmp 75) 1, 0, _, _, none⟩) (v := .pointer (some ⟨g, t * 3 + 1, none⟩)) rfl (Or.inl ⟨by rfl, fun w hS => by go_simp⟩) hA9 ?_
   refine wpAnyH_ready (rs := [14]) (by kernel_rfl) (by simp) ?_
   refine AllReadyH.cons (o := ⟨none, Op.store 41 (Operand.tmp 76) (Operand.tmp 74), 0, _, _, none⟩) rfl (fun K hK => ?_) AllReadyH.nil
   rw [if_pos (by rfl)]
   have f_o : w9.frozen? ⟨g, t * 3 + 1, none⟩ = false := ownF_frozen JD9.out.own _
   have cl := (own_fc JD9.out.own HX2.out).1
   refine wp_cellS (w9.setCell ⟨g, t * 3 + 1, none⟩ (.slice a9 n9 k9)) (by go_simp) ?_
   clear f_o cl
   have JD10 : Keep (DskAt (w9.setCell ⟨g, t * 3 + 1, none⟩ (.slice a9 n9 k9)) p (.slice (some ⟨g, 0, none⟩) cs.length vc) (c2.set t (⟨xn, .slice a9 n9 k9, (m : Int)⟩ : FC)) { D2 with fs := D2.fs.set t ({ nm := f.nm, bs := f.bs.take m, sf := (m : Int) } : PF) }) := ⟨dsk_newb JD3.out HX2.out HF3.out B9.out HV9.out N9.out⟩
   have HX10 : Keep ((c2.set t (⟨xn, .slice a9 n9 k9, (m : Int)⟩ : FC))[t]? = some (⟨xn, .slice a9 n9 k9, (m : Int)⟩ : FC)) := ⟨List.getElem?_set_self (List.getElem?_eq_some_iff.1 HX2.out).1⟩
   have G10 : Keep (Grown w (w9.setCell ⟨g, t * 3 + 1, none⟩ (.slice a9 n9 k9)) (fun k => k = p ∨ (Value.slice (some ⟨g, 0, none⟩) cs.length vc).ownBlock = some k)) := ⟨(G3.out.trans (Grown.below B9.out)).trans (Grown.setCell w9 g _ _ fun _ => .inr rfl)⟩
   have N10 : Keep (∀ k, (Value.slice a9 n9 k9).ownBlock = some k → w.heap.size ≤ k) := ⟨fun k hk => Nat.le_trans G3.out.size (N9.out k hk)⟩
   clear JD9 JD3 G3 B9 HV9 N9 JD4 HE4 B4 HS1 HS2 HR3
   generalize (w9.setCell ⟨g, t * 3 + 1, none⟩ (.slice a9 n9 k9)) = w10 at *
   refine hK _ _ (own_fc JD10.out.own HX10.out).2 fun hS10 => ?_
   clear hK
   simp only [Act.put, pqA, pqB, pqC]
   refine wpAnyH_done (by kernel_rfl) ?_ _
   rotate_left
   rw [if_pos (by rfl)]
   have cl : w3.cell? ⟨g, t * 3 + 1, none⟩ = some (.slice xa f.bs.length xc) := (own_fc JD3.out.own HX2.out).1
   refine wp_val (.slice xa f.bs.length xc) (by go_simp) ?_
   clear cl
   refine hK _ _ (own_fc JD3.out.own HX2.out).2 fun hL3 => ?_
   clear hK
   simp only [Act.put, pqA, pqB, pqC]
   refine tkS (i := 10) (oi := ⟨some 73, Op.slice 41 (Operand.tmp 68) none (some (Operand.tmp 72)) none, 41, _, _, none⟩) (v := vs) rfl (yieldsIf_slice (by rfl) 41 (.tmp 68) (.tmp 72) rfl (.slice xa f.bs.length xc) (.int .i64 (m : Int)) vs rfl rfl HS1.out) hL3 ?_
   refine wpAnyH_ready (rs := [1]) (by kernel_rfl) (by simp) ?_
   refine AllReadyH.cons (o := ⟨some 64, Op.buildSlice 41 0 #[], 41, _, _, none⟩) rfl (fun K hK => ?_) AllReadyH.nil
   rw [if_pos (by rfl)]
   refine wp_bsj 41 0 _ rfl #[] (by simp) _ _ (bsBE w3) ?_
   have hbx := below_new w3 (.cells #[] 5)
   have HE4 : Keep (Own (w3.alloc (.cells #[] 5)) (.slice (some ⟨w3.heap.size, 0, none⟩) 0 0) []) := ⟨own_empty _ _ (Blk.new w3 5 #[])⟩
   have JD4 := Keep.mk (JD3.out.below hbx)
   have B4 := Keep.mk hbx
   clear hbx
   generalize w3.alloc (.cells #[] 5) = w4 at *
   obtain ⟨ge, hge⟩ : ∃ q, Keep (q = w3.heap.size) := ⟨_, ⟨rfl⟩⟩
   rw [← hge.out] at HE4 ⊢
   refine hK _ _ (own_fc JD4.out.own HX2.out).2 fun hB4 => ?_
   clear hK
   simp only [Act.put, pqA, pqB, pqC]
   refine wpAnyH_ready (rs := [11]) (by kernel_rfl) (by simp) ?_
   refine AllReadyH.cons (o := ⟨some 74, Op.call { callee := Callee.builtin Builtin.append, args := #[Operand.tmp 64, Operand.tmp 73], argTypes := #[41, 41] }, 41, _, _, none⟩) rfl (fun K hK => ?_) AllReadyH.nil
   rw [if_pos (by rfl)]
   refine wp_app (.tmp 64) (.tmp 73) rfl (.slice (some ⟨ge, 0, none⟩) 0 0) vs [] (f.bs.take m) rfl rfl HE4.out (HS2.out w4 (HR3.out.below B4.out)) (by have := HB.out; simp; omega) fun v9 w9 hp => ?_
   have HV9 : Keep (Own w9 v9 (f.bs.take m)) := ⟨by have h := hp.1; rw [List.nil_append] at h; exact h⟩
   have N9 : Keep (∀ k, v9.ownBlock = some k → w3.heap.size ≤ k) := ⟨own_new hp B4.out.size fun k hk => by have e : ge = k := Option.some.inj hk; have := hge.out; omega⟩
   have B9 : Keep (Below w3.heap.size w3 w9) := ⟨B4.out.trans (hp.grown.to_below (B := w3.heap.size) (fun k hk e => by have e : ge = k := Option.some.inj e; have := hge.out; omega) B4.out.size)⟩
   have JD9 := Keep.mk (JD3.out.below B9.out)
   clear hp
   obtain ⟨a9, n9, k9, e9⟩ := HV9.out.sl
   subst e9
   refine hK _ _ (own_fc JD9.out.own HX2.out).2 fun hA9 => ?_
   clear hK
   simp only [Act.put, pqA, pqB, pqC]
   refine tkS (i := 12) (oi := ⟨some 75, Op.nilCheck (Operand.tmp 63), 0, _, _, none⟩) (v := .pointer (some ⟨g, t * 3, none⟩)) rfl (Or.inl ⟨by rfl, fun w hS => by go_simp⟩) hA9 ?_
   refine tkS (i := 13) (oi := ⟨some 76, Op.fieldAddr 72 (Operand.tmp 75) 1, 0, _, _, none⟩) (v := .pointer (some ⟨g, t * 3 + 1, none⟩)) rfl (Or.inl ⟨by rfl, fun w hS => by go_simp⟩) hA9 ?_
   refine wpAnyH_ready (rs := [14]) (by kernel_rfl) (by simp) ?_
   refine AllReadyH.cons (o := ⟨none, Op.store 41 (Operand.tmp 76) (Operand.tmp 74), 0, _, _, none⟩) rfl (fun K hK => ?_) AllReadyH.nil
   rw [if_pos (by rfl)]
   have f_o : w9.frozen? ⟨g, t * 3 + 1, none⟩ = false := ownF_frozen JD9.out.own _
   have cl := (own_fc JD9.out.own HX2.out).1
   refine wp_cellS (w9.setCell ⟨g, t * 3 + 1, none⟩ (.slice a9 n9 k9)) (by go_simp) ?_
   clear f_o cl
   have JD10 : Keep (DskAt (w9.setCell ⟨g, t * 3 + 1, none⟩ (.slice a9 n9 k9)) p (.slice (some ⟨g, 0, none⟩) cs.length vc) (c2.set t (⟨xn, .slice a9 n9 k9, (m : Int)⟩ : FC)) { D2 with fs := D2.fs.set t ({ nm := f.nm, bs := f.bs.take m, sf := (m : Int) } : PF) }) := ⟨dsk_newb JD3.out HX2.out HF3.out B9.out HV9.out N9.out⟩
   have HX10 : Keep ((c2.set t (⟨xn, .slice a9 n9 k9, (m : Int)⟩ : FC))[t]? = some (⟨xn, .slice a9 n9 k9, (m : Int)⟩ : FC)) := ⟨List.getElem?_set_self (List.getElem?_eq_some_iff.1 HX2.out).1⟩
   have G10 : Keep (Grown w (w9.setCell ⟨g, t * 3 + 1, none⟩ (.slice a9 n9 k9)) (fun k => k = p ∨ (Value.slice (some ⟨g, 0, none⟩) cs.length vc).ownBlock = some k)) := ⟨(G3.out.trans (Grown.below B9.out)).trans (Grown.setCell w9 g _ _ fun _ => .inr rfl)⟩
   have N10 : Keep (∀ k, (Value.slice a9 n9 k9).ownBlock = some k → w.heap.size ≤ k) := ⟨fun k hk => Nat.le_trans G3.out.size (N9.out k hk)⟩
   clear JD9 JD3 G3 B9 HV9 N9 JD4 HE4 B4 HS1 HS2 HR3
   generalize (w9.setCell ⟨g, t * 3 + 1, none⟩ (.slice a9 n9 k9)) = w10 at *
   refine hK _ _ (own_fc JD10.out.own HX10.out).2 fun hS10 => ?_
   clear hK
   simp only [Act.put, pqA, pqB, pqC]
   refine wpAnyH_done (by kernel_rfl) ?_ _
   rotate_left
   all_goals
    refine hK18 _ _ ?_
    have JD11 : Keep (DskAt w10.drew p (.slice (some ⟨g, 0, none⟩) cs.length vc) (c2.set t (⟨xn, .slice a9 n9 k9, (m : Int)⟩ : FC)) { D2 with fs := D2.fs.set t ({ nm := f.nm, bs := f.bs.take m, sf := (m : Int) } : PF) }) := ⟨JD10.out.grown (Grown.refl w10 (fun _ => False)).drew fun _ _ h => h⟩
    have G11 : Keep (Grown w w10.drew (fun k => k = p ∨ (Value.slice (some ⟨g, 0, none⟩) cs.length vc).ownBlock = some k)) := ⟨G10.out.drew⟩
    have hgp : Keep (g ≠ p) := ⟨fun e => JD11.out.own.ne JD11.out.blk (by decide) (by rw [e]; rfl)⟩
    have hwu : IntKind.i64.wrap (D2.used + (m : Int)) = D2.used + (m : Int) := by rw [IntKind.wrap_i64]; have := HUt.out; have := HU3.out; have := HM.out; have := HB.out; omega
    clear JD10 G10
    refine wp_region_held_drew (S := fun wx => wx.cell? ⟨g, t * 3 + 2, none⟩ = some (.int .i64 (m : Int))) (by kernel_rfl) (own_fc JD11.out.own HX10.out).2 (fun hHeld => ?_)
    generalize w10.drew = w11 at *
    refine tkS (i := 0) (oi := ⟨some 77, Op.move (Operand.tmp 4), 48, _, _, none⟩) (v := .pointer (some ⟨p, 0, none⟩)) rfl (Or.inl ⟨by rfl, fun w hS => by go_simp⟩) hHeld ?_
    refine tkS (i := 1) (oi := ⟨some 78, Op.nilCheck (Operand.tmp 77), 0, _, _, none⟩) (v := .pointer (some ⟨p, 0, none⟩)) rfl (Or.inl ⟨by rfl, fun w hS => by go_simp⟩) hHeld ?_
    refine tkS (i := 2) (oi := ⟨some 79, Op.fieldAddr 51 (Operand.tmp 78) 2, 0, _, _, none⟩) (v := .pointer (some ⟨p, 2, none⟩)) rfl (Or.inl ⟨by rfl, fun w hS => by go_simp⟩) hHeld ?_
    refine tkS (i := 4) (oi := ⟨some 81, Op.move (Operand.tmp 6), 70, _, _, none⟩) (v := .pointer (some ⟨g, t * 3, none⟩)) rfl (Or.inl ⟨by rfl, fun w hS => by go_simp⟩) hHeld ?_
    refine tkS (i := 5) (oi := ⟨some 82, Op.nilCheck (Operand.tmp 81), 0, _, _, none⟩) (v := .pointer (some ⟨g, t * 3, none⟩)) rfl (Or.inl ⟨by rfl, fun w hS => by go_simp⟩) hHeld ?_
    refine tkS (i := 6) (oi := ⟨some 83, Op.fieldAddr 72 (Operand.tmp 82) 2, 0, _, _, none⟩) (v := .pointer (some ⟨g, t * 3 + 2, none⟩)) rfl (Or.inl ⟨by rfl, fun w hS => by go_simp⟩) hHeld ?_
    refine tkS (i := 7) (oi := ⟨some 84, Op.load 3 (Operand.tmp 83), 3, _, _, none⟩) (v := .int .i64 (m : Int)) rfl (Or.inl ⟨by rfl, fun w hS => by go_simp⟩) hHeld ?_
    refine wpAnyH_ready (rs := [3]) (by kernel_rfl) (by simp) ?_
    refine AllReadyH.cons (o := ⟨some 80, Op.load 3 (Operand.tmp 79), 3, _, _, none⟩) rfl (fun K hK => ?_) AllReadyH.nil
    rw [if_pos (by rfl)]
    have cl : w11.cell? ⟨p, 2, none⟩ = some (.int .i64 D2.used) := JD11.out.blk.c 2 rfl
    refine wp_val (.int .i64 D2.used) (by go_simp) ?_
    clear cl
    refine hK _ _ (own_fc JD11.out.own HX10.out).2 fun hH1 => ?_
    clear hK
    simp only [Act.put, pqA, pqB, pqC]
    refine tkS (i := 8) (oi := ⟨some 85, Op.binOp BinOp.add 3 (Operand.tmp 80) (Operand.tmp 84) 3, 3, _, _, none⟩) (v := .int .i64 (D2.used + (m : Int))) rfl (Or.inl ⟨by rfl, fun w hS => by go_simp⟩) hH1 ?_
    refine tkS (i := 9) (oi := ⟨some 86, Op.nilCheck (Operand.tmp 77), 0, _, _, none⟩) (v := .pointer (some ⟨p, 0, none⟩)) rfl (Or.inl ⟨by rfl, fun w hS => by go_simp⟩) hH1 ?_
    refine tkS (i := 10) (oi := ⟨some 87, Op.fieldAddr 51 (Operand.tmp 86) 2, 0, _, _, none⟩) (v := .pointer (some ⟨p, 2, none⟩)) rfl (Or.inl ⟨by rfl, fun w hS => by go_simp⟩) hH1 ?_
    refine wpAnyH_ready (rs := [11]) (by kernel_rfl) (by simp) ?_
    refine AllReadyH.cons (o := ⟨none, Op.store 3 (Operand.tmp 87) (Operand.tmp 85), 0, _, _, none⟩) rfl (fun K hK => ?_) AllReadyH.nil
    rw [if_pos (by rfl)]
    have f_o := JD11.out.blk.frozen 2
    have cl : w11.cell? ⟨p, 2, none⟩ = some (.int .i64 D2.used) := JD11.out.blk.c 2 rfl
    refine wp_cellS (w11.setCell ⟨p, 2, none⟩ (.int .i64 (D2.used + (m : Int)))) (by go_simp) ?_
    clear f_o cl
    have JD12 : Keep (DskAt (w11.setCell ⟨p, 2, none⟩ (.int .i64 (D2.used + (m : Int)))) p (.slice (some ⟨g, 0, none⟩) cs.length vc) (c2.set t (⟨xn, .slice a9 n9 k9, (m : Int)⟩ : FC)) { D2 with fs := D2.fs.set t ({ nm := f.nm, bs := f.bs.take m, sf := (m : Int) } : PF), used := D2.used + (m : Int) }) := ⟨JD11.out.put rfl rfl⟩
    have G12 : Keep (Grown w (w11.setCell ⟨p, 2, none⟩ (.int .i64 (D2.used + (m : Int)))) (fun k => k = p ∨ (Value.slice (some ⟨g, 0, none⟩) cs.length vc).ownBlock = some k)) := ⟨G11.out.trans (Grown.setCell w11 p 2 _ fun _ => .inl rfl)⟩
    clear JD11 G11 hwu
    generalize (w11.setCell ⟨p, 2, none⟩ (.int .i64 (D2.used + (m : Int)))) = w12 at *
    refine hK _ _ (own_fc JD12.out.own HX10.out).2 fun hS12 => ?_
    clear hK
    simp only [Act.put, pqA, pqB, pqC]
    refine wpAnyH_done (by kernel_rfl) ?_ _
    refine hK7 _ _ ?_
    refine rgn ?_
    refine VlS (.int .i64 ((t : Int) + 1)) ?_
    refine VlS (.int .i64 ((t : Int) + 1)) ?_
    refine WL.nil ?_
    refine ⟨⟨t + 1, fun zz => [.pointer (some ⟨h, 0, none⟩), .slice ka kp.length kc, undef, undef, .pointer (some ⟨p, 0, none⟩), .int .i64 (t : Int), .pointer (some ⟨g, t * 3, none⟩), .int .i64 nn, fz 8, .pointer (some ⟨h, 0, none⟩), .pointer (some ⟨h, 0, none⟩), .pointer (some ⟨h, 0, none⟩), .pointer (some ⟨p, 0, none⟩), .pointer (some ⟨p, 0, none⟩), .pointer (some ⟨p, 0, none⟩), .pointer (some ⟨p, 2, none⟩), .pointer (some ⟨p, 0, none⟩), .pointer (some ⟨p, 0, none⟩), .pointer (some ⟨p, 0, none⟩), .slice (some ⟨g, 0, none⟩) cs.length vc, .int .i64 (cs.length : Int), .int .i64 ((t : Int) + 1), .bool true, .int .i64 (t : Int), .pointer (some ⟨p, 0, none⟩), .pointer (some ⟨p, 0, none⟩), .pointer (some ⟨p, 0, none⟩), .slice (some ⟨g, 0, none⟩) cs.length vc, .int .i64 (t : Int), .pointer (some ⟨g, t * 3, none⟩), .int .i64 (t : Int), .slice ka kp.length kc, .int .i64 (kp.length : Int), .bool false, fz 34, fz 35, fz 36, fz 37, fz 38, fz 39, fz 40, fz 41, fz 42, fz 43, fz 44, fz 45, fz 46, fz 47, fz 48, fz 49, fz 50, fz 51, fz 52, fz 53, fz 54, .pointer (some ⟨g, t * 3, none⟩), .pointer (some ⟨g, t * 3, none⟩), .pointer (some ⟨g, t * 3 + 2, none⟩), .int .i64 xs, .int .i64 nn, .int .i64 (m : Int), .pointer (some ⟨g, t * 3, none⟩), .pointer (some ⟨g, t * 3 + 2, none⟩), .pointer (some ⟨g, t * 3, none⟩), .slice (some ⟨ge, 0, none⟩) 0 0, .pointer (some ⟨g, t * 3, none⟩), .pointer (some ⟨g, t * 3, none⟩), .pointer (some ⟨g, t * 3 + 1, none⟩), .slice xa f.bs.length xc, .pointer (some ⟨g, t * 3, none⟩), .pointer (some ⟨g, t * 3, none⟩), .pointer (some ⟨g, t * 3 + 2, none⟩), .int .i64 (m : Int), vs, .slice a9 n9 k9, .pointer (some ⟨g, t * 3, none⟩), .pointer (some ⟨g, t * 3 + 1, none⟩), .pointer (some ⟨p, 0, none⟩), .pointer (some ⟨p, 0, none⟩), .pointer (some ⟨p, 2, none⟩), .int .i64 D2.used, .pointer (some ⟨g, t * 3, none⟩), .pointer (some ⟨g, t * 3, none⟩), .pointer (some ⟨g, t * 3 + 2, none⟩), .int .i64 (m : Int), .int .i64 (D2.used + (m : Int)), .pointer (some ⟨p, 0, none⟩), .pointer (some ⟨p, 2, none⟩), .int .i64 ((t : Int) + 1), undef, undef, undef, undef, undef, undef].getD zz undef, c2.set t (⟨xn, .slice a9 n9 k9, (m : Int)⟩ : FC), _, rfl, by omega, by rw [hc2.out, List.length_set, List.length_set]; exact JC.out, JD12.out, ?_, G12.out, ?_⟩, ?_⟩
    ·have hcr : f.crash (kpN kp t f) = ({ nm := f.nm, bs := f.bs.take m, sf := (m : Int) } : PF) := by
      have e : f.sf + kpN kp t f = (m : Int) := by rw [← HXs.out, ← HN.out]; exact hm.out.symm
      unfold PF.crash
      rw [e, Int.toNat_natCast]
     have hLt : t < (crT kp t D.fs).length := by rw [crT_len]; exact hLD
     rw [crT_step kp t D.fs f HFd.out, hcr, usd_step _ _ _ hLt]
     have e1 : D2.fs.set t ({ nm := f.nm, bs := f.bs.take m, sf := (m : Int) } : PF) = (crT kp t D.fs).set t ({ nm := f.nm, bs := f.bs.take m, sf := (m : Int) } : PF) := by rw [hD2.out, JE.out]; exact List.set_set ..
     have e2 : D2.used = usd ((crT kp t D.fs).take t) := by rw [HU3.out, JE.out]
     have e3 : ((f.bs.take m).length : Int) = (m : Int) := by rw [List.length_take]; have := HM.out; omega
     rw [e1, e2]
     show _ = _
     rw [hD2.out, JE.out]
     simp only [e3]
    ·intro k hk
     have h1 := dskS_newb (B := w.heap.size) HX2.out N10.out k hk
     rcases h1 with h1 | h1
     ·rw [hc2.out] at h1
      exact JS.out k (dskS_sync (x := (⟨xn, .slice xa f.bs.length xc, xs⟩ : FC)) HX.out h1)
     ·exact .inr h1
    ·simp only [intOf]; show cs.length - ((t : Int) + 1).toNat < cs.length - ((t : Int)).toNat; omega
 ·have hlt' : ¬ (t : Int) < (cs.length : Int) := by omega
  have hte : Keep (t = D.fs.length) := ⟨by have := HD.out.fcs.len; omega⟩
  refine wp_seq_k fun K20 hK20 => rgn ?_
  refine VlS (.bool false) ?_
  refine WL.nil (hK20 _ _ ?_)
  refine wp_seq_k fun K21 hK21 => ?_
  refine wp_cond_false rfl ?_
  refine wp_exit ?_
  refine hK3 _ _ ?_
  refine wp_seq_k fun K22 hK22 => rgn ?_
  refine VlS (.pointer (some ⟨p, 0, none⟩)) ?_
  refine VlS (.pointer (some ⟨p, 0, none⟩)) ?_
  refine VlS (.pointer (some ⟨p, 4, none⟩)) ?_
  have cl := JD.out.blk.c 4 (by rfl : (stA (.slice va cs.length vc) Dt)[4]? = some (.bool Dt.out))
  have f_o := JD.out.blk.frozen 4
  refine WL.cell (by kernel_rfl) (wr.setCell ⟨p, 4, none⟩ (.bool false)) (by go_simp) ?_
  have JD2 : Keep (DskAt (wr.setCell ⟨p, 4, none⟩ (.bool false)) p (.slice va cs.length vc) ct { Dt with out := false }) := ⟨JD.out.put rfl rfl⟩
  have G2 : Keep (Grown w (wr.setCell ⟨p, 4, none⟩ (.bool false)) (fun k => k = p ∨ (Value.slice va cs.length vc).ownBlock = some k)) := ⟨JG.out.trans (Grown.setCell wr p 4 _ fun _ => .inl rfl)⟩
  clear cl f_o
  generalize wr.setCell ⟨p, 4, none⟩ (.bool false) = w2 at *
  simp only [Act.put]
  refine WL.nil (hK22 _ _ ?_)
  refine rgn ?_
  refine VlS (.pointer (some ⟨p, 0, none⟩)) ?_
  refine VlS (.pointer (some ⟨p, 0, none⟩)) ?_
  refine VlS (.pointer (some ⟨p, 3, none⟩)) ?_
  have cl := JD2.out.blk.c 3 (by rfl : (stA (.slice va cs.length vc) { Dt with out := false })[3]? = some (.int .i64 Dt.fuse))
  have f_o := JD2.out.blk.frozen 3
  refine WL.cell (by kernel_rfl) (w2.setCell ⟨p, 3, none⟩ (.int .i64 (-1))) (by go_simp) ?_
  have JD3 : Keep (DskAt (w2.setCell ⟨p, 3, none⟩ (.int .i64 (-1))) p (.slice va cs.length vc) ct { Dt with out := false, fuse := -1 }) := ⟨JD2.out.put rfl rfl⟩
  have G3 : Keep (Grown w (w2.setCell ⟨p, 3, none⟩ (.int .i64 (-1))) (fun k => k = p ∨ (Value.slice va cs.length vc).ownBlock = some k)) := ⟨G2.out.trans (Grown.setCell w2 p 3 _ fun _ => .inl rfl)⟩
  clear cl f_o
  generalize w2.setCell ⟨p, 3, none⟩ (.int .i64 (-1)) = w3 at *
  simp only [Act.put]
  refine WL.nil ?_
  go_end0
  refine ⟨rfl, ct, ?_, G3.out, JS.out⟩
  have h := JD3.out
  rw [JE.out] at h
  rw [hte.out] at h
  rw [List.take_of_length_le (by rw [crT_len]; exact Nat.le_refl _)] at h
  exact h
end Go.Proofs.YtlggejehaonkcaaDoor
namespace Go.Proofs.YtlggejehaonkcaaDoor
open Go.RowKit
def sndS : Code → Code
 | .seq _ y => y
 | c => c
def bodyC (f : Func) : Code := match f.body with
 | some c => c
 | none => .skip
end Go.Proofs.YtlggejehaonkcaaDoor
namespace Go.Proofs.YtlggejehaonkcaaDoor
open Go.RowKit
set_option linter.unusedSimpArgs false
set_option linter.unusedVariables false

def JAppPost (D : DV) (V : JV) (la : Bool) (l : List Int) (sure g d p : Nat) (N : Nat → Prop) (w : World) (e : Ending) (w' : World) : Prop :=
 ∃ (ee : Int) (D' : DV) (V' : JV) (la' de' : Bool), e = .returned (.int .i64 ee) ∧ JDN w' g d p D' V' la' de' (JN2 N w.heap.size w'.heap.size) ∧ Grown w w' N ∧ (D.acts ≤ D'.acts ∧ D'.acts ≤ D.acts + 300) ∧
  ((ee = 0 ∧ de' = false ∧ V'.ps = V.ps ++ [l] ∧ JX D' V' la' sure) ∨ (ee = 7 ∧ CR D' (V.ps ++ [l]) sure) ∨ ((ee = 1 ∨ ee = 4 ∨ ee = 8) ∧ de' = false ∧ V' = V ∧ JX D' V la' sure))
set_option maxRecDepth 8000 in
set_option maxHeartbeats 4000000 in
theorem japp_tail {w0 wi : World} {g d p q k bc : Nat} {a : Int} {ba : Option Addr} {l : List Int} {vf vp : Value} {cs : List FC} {D0 D DA : DV} {V V' : JV} {la : Bool} {sure : Nat} {N : Nat → Prop} {x2 x3 x4 x6 x7 x8 x9 x10 x11 x12 x13 x14 x15 x16 x17 x18 x19 x20 x21 x22 x23 x24 x25 x26 x27 x28 x29 x30 x31 x32 x33 x34 x35 x36 x37 x38 x39 x40 x41 x42 x43 x44 x45 x46 x47 x48 x49 x50 x51 x52 x53 x54 x55 x56 x57 x58 x59 x60 x61 x62 x63 x64 x65 x66 x67 x68 x69 x70 x71 x72 x73 x74 x75 x76 x77 x78 x79 x80 x81 x82 x83 x84 x85 x86 x87 x88 x89 x90 x91 x92 x93 x94 x95 x96 x97 x98 x99 x100 x101 : Value}
  (hT : Tab wi) (hG : Grown w0 wi N) (hJ : Blk wi g 81 (jA d vp V.pr V.sz la false)) (hP : OwnP wi vp V.pl) (hDk0 : Blk w0 d 53 #[ptr p]) (hD : DskAt wi p vf cs D) (hN : ∀ k, (DskS p vf cs k ∨ k = g ∨ vp.ownBlock = some k) → N k) (hNl : ∀ k, N k → k < w0.heap.size) (hd : ¬ N d) (hQ : Blk wi q 88 #[.int .i64 (k : Int), .int .i64 a]) (hq : w0.heap.size ≤ q) (hR : RowAt wi (.slice ba l.length bc) l) (hk : k < 256) (ha : 0 ≤ a ∧ a ≤ 1000000000) (hPo : PayOk l) (hPn : V.pl.length ≤ 1000000000)
  (hAp : ∀ (wx : World) (v : Value), Blk wx d 53 #[ptr p] → DskAt wx p vf cs D → RowAt wx v (fr l) → (∀ k, v.ownBlock = some k → k ≠ p) → Calls Tryd.prog 35 #[ptr d, .string (nmS k), v] wx fun e w' => e = .returned (.int .i64 (pw D)) ∧ ∃ vf' cs', DskAt w' p vf' cs' DA ∧ Grown wx w' (DskS p vf cs) ∧ ∀ k, DskS p vf' cs' k → DskS p vf cs k ∨ wx.heap.size ≤ k)
  (hAc : D0.acts ≤ DA.acts ∧ DA.acts ≤ D0.acts + 300) (hV : V'.ps = V.ps ++ [l] ∧ V'.pr = (k : Int) ∧ V'.sz = a + 16 + (l.length : Int) ∧ V'.pl = (V.pl ++ [((k : Int), a)])) (hOk : ¬ D.fuse = 0 → JX DA V' true sure) (hCr : CR DA (V.ps ++ [l]) sure) :
  Code.wp Tryd.prog (sndS (sndS (sndS (sndS (sndS (bodyC Tryd.f20)))))) (bodyPost Tryd.prog Tryd.f20 (JAppPost D0 V la l sure g d p N w0)) { tmps := #[.pointer (some ⟨g, 0, none⟩), .slice ba l.length bc, x2, x3, x4, .pointer (some ⟨q, 0, none⟩), x6, x7, x8, x9, x10, x11, x12, x13, x14, x15, x16, x17, x18, x19, x20, x21, x22, x23, x24, x25, x26, x27, x28, x29, x30, x31, x32, x33, x34, x35, x36, x37, x38, x39, x40, x41, x42, x43, x44, x45, x46, x47, x48, x49, x50, x51, x52, x53, x54, x55, x56, x57, x58, x59, x60, x61, x62, x63, x64, x65, x66, x67, x68, x69, x70, x71, x72, x73, x74, x75, x76, x77, x78, x79, x80, x81, x82, x83, x84, x85, x86, x87, x88, x89, x90, x91, x92, x93, x94, x95, x96, x97, x98, x99, x100, x101], defers := [] } wi := by
 have HT := Keep.mk hT
 have HG := Keep.mk hG
 have HJ := Keep.mk hJ
 have HP := Keep.mk hP
 have HDk0 := Keep.mk hDk0
 have HDk : Keep (Blk wi d 53 #[ptr p]) := ⟨hG.blk hDk0 hd⟩
 have HD := Keep.mk hD
 have HN := Keep.mk hN
 have HNl := Keep.mk hNl
 have Hd := Keep.mk hd
 have HQ := Keep.mk hQ
 have Hq := Keep.mk hq
 have HR := Keep.mk hR
 have Hk := Keep.mk hk
 have Ha := Keep.mk ha
 have HPo := Keep.mk hPo
 have HPn := Keep.mk hPn
 have HAp := Keep.mk hAp
 have HAc := Keep.mk hAc
 have HV := Keep.mk hV
 have HOk := Keep.mk hOk
 have HCr := Keep.mk hCr
 have HZ : Keep (0 < wi.heap.size) := ⟨Nat.lt_of_le_of_lt (Nat.zero_le _) hJ.lt⟩
 clear hT hG hJ hP hDk0 hD hN hNl hd hQ hq hR hk ha hPo hPn hAp hAc hV hOk hCr
 generalize hg : (bodyPost Tryd.prog Tryd.f20 (JAppPost D0 V la l sure g d p N w0)) = Q
 unfold Tryd.f20
 simp only [bodyC, sndS]
 subst hg
 refine wp_seq_k fun K1 hK1 => ?_
 have D4 : Keep (Below wi.heap.size wi wi.drew) := ⟨(Below.refl _ _).drew⟩
 have HSx : Keep (∀ wx de, Blk wx g 81 (jA d vp V.pr V.sz la de) → Blk wx q 88 #[.int .i64 (k : Int), .int .i64 a] → wx.cell? ⟨g, 0, none⟩ = some (ptr d) ∧ wx.cell? ⟨q, 0, none⟩ = some (.int .i64 (k : Int))) := ⟨fun wx de h1 h2 => ⟨h1.c 0 rfl, h2.c 0 rfl⟩⟩
 refine wp_region_held_drew (S := fun wx => wx.cell? ⟨g, 0, none⟩ = some (ptr d) ∧ wx.cell? ⟨q, 0, none⟩ = some (.int .i64 (k : Int))) (by kernel_rfl) (HSx.out _ _ HJ.out.drew HQ.out.drew) (fun hHeld => ?_)
 refine tkS (i := 0) (oi := ⟨some 58, Op.move (Operand.tmp 0), 56, _, _, none⟩) (v := .pointer (some ⟨g, 0, none⟩)) rfl (Or.inl ⟨by rfl, fun w hS => by obtain ⟨hS1, hS2⟩ := hS; go_simp⟩) hHeld ?_
 refine tkS (i := 1) (oi := ⟨some 59, Op.move (Operand.tmp 0), 56, _, _, none⟩) (v := .pointer (some ⟨g, 0, none⟩)) rfl (Or.inl ⟨by rfl, fun w hS => by obtain ⟨hS1, hS2⟩ := hS; go_simp⟩) hHeld ?_
 refine tkS (i := 2) (oi := ⟨some 60, Op.nilCheck (Operand.tmp 59), 0, _, _, none⟩) (v := .pointer (some ⟨g, 0, none⟩)) rfl (Or.inl ⟨by rfl, fun w hS => by obtain ⟨hS1, hS2⟩ := hS; go_simp⟩) hHeld ?_
 refine tkS (i := 3) (oi := ⟨some 61, Op.fieldAddr 81 (Operand.tmp 60) 0, 0, _, _, none⟩) (v := .pointer (some ⟨g, 0, none⟩)) rfl (Or.inl ⟨by rfl, fun w hS => by obtain ⟨hS1, hS2⟩ := hS; go_simp⟩) hHeld ?_
 refine tkS (i := 4) (oi := ⟨some 62, Op.load 26 (Operand.tmp 61), 26, _, _, none⟩) (v := .pointer (some ⟨d, 0, none⟩)) rfl (Or.inl ⟨by rfl, fun w hS => by obtain ⟨hS1, hS2⟩ := hS; go_simp⟩) hHeld ?_
 refine tkS (i := 5) (oi := ⟨some 63, Op.fieldAddr 88 (Operand.tmp 5) 0, 0, _, _, none⟩) (v := .pointer (some ⟨q, 0, none⟩)) rfl (Or.inl ⟨by rfl, fun w hS => by obtain ⟨hS1, hS2⟩ := hS; go_simp⟩) hHeld ?_
 refine tkS (i := 6) (oi := ⟨some 64, Op.load 3 (Operand.tmp 63), 3, _, _, none⟩) (v := .int .i64 (k : Int)) rfl (Or.inl ⟨by rfl, fun w hS => by obtain ⟨hS1, hS2⟩ := hS; go_simp⟩) hHeld ?_
 refine tkS (i := 8) (oi := ⟨some 66, Op.move (Operand.tmp 1), 41, _, _, none⟩) (v := .slice ba l.length bc) rfl (Or.inl ⟨by rfl, fun w hS => by obtain ⟨hS1, hS2⟩ := hS; go_simp⟩) hHeld ?_
 refine wpAnyH_ready (rs := [7]) (by kernel_rfl) (by simp) ?_
 refine AllReadyH.cons (o := ⟨some 65, Op.call { callee := Callee.value (Operand.func 31), args := #[Operand.tmp 64], argTypes := #[3] }, 9, _, _, none⟩) rfl (fun K hK => ?_) AllReadyH.nil
 rw [if_pos (by rfl)]
 refine wp_callF 31 _ _ rfl Tryd.in31 #[.int .i64 (k : Int)] (by simp [Act.eval]) (fun vz wz => vz = .string (nmS k) ∧ Below wi.heap.size wi wz) ?_ ?_
 ·refine (name_any k (by have := Hk.out; omega) wi.drew (HT.out.below D4.out HZ.out)).mono ?_
  rintro e wz ⟨rfl, h⟩
  exact ⟨_, rfl, rfl, D4.out.trans (h.mono D4.out.size)⟩
 rintro vz w5 ⟨rfl, h5⟩
 have B5 := Keep.mk h5
 clear h5
 obtain ⟨nn, hnn⟩ : ∃ s, Keep (s = nmS k) := ⟨_, ⟨rfl⟩⟩
 rw [← hnn.out]
 refine hK _ _ (HSx.out _ _ (HJ.out.below B5.out HJ.out.lt) (HQ.out.below B5.out HQ.out.lt)) fun hH5 => ?_
 clear hK
 simp only [Act.put, pqA, pqB, pqC]
 refine wpAnyH_ready (rs := [9]) (by kernel_rfl) (by simp) ?_
 refine AllReadyH.cons (o := ⟨some 67, Op.call { callee := Callee.value (Operand.func 36), args := #[Operand.tmp 66], argTypes := #[41] }, 41, _, _, none⟩) rfl (fun K hK => ?_) AllReadyH.nil
 rw [if_pos (by rfl)]
 refine wp_callF 36 _ _ rfl Tryd.in36 #[.slice ba l.length bc] (by simp [Act.eval]) (fun vz wz => Own wz vz (fr l) ∧ (∀ k, vz.ownBlock = some k → w5.heap.size ≤ k) ∧ Below w5.heap.size w5 wz) ?_ ?_
 ·refine (frame_any _ l w5 (HR.out.below B5.out) (by have := HPo.out.2; omega)).mono ?_
  rintro e wz ⟨v6, rfl, h1, h2, h3⟩
  exact ⟨_, rfl, h1, h2, h3⟩
 rintro vz w6 ⟨h1, h2, h3⟩
 have O6 := Keep.mk h1
 have N6 : Keep (∀ k, vz.ownBlock = some k → wi.heap.size ≤ k) := ⟨fun k hk => Nat.le_trans B5.out.size (h2 k hk)⟩
 have B6 : Keep (Below wi.heap.size wi w6) := ⟨B5.out.trans (h3.mono B5.out.size)⟩
 clear h1 h2 h3
 obtain ⟨va, vn, vc, e6⟩ := O6.out.sl
 subst e6
 refine hK _ _ (HSx.out _ _ (HJ.out.below B6.out HJ.out.lt) (HQ.out.below B6.out HQ.out.lt)) fun hH6 => ?_
 clear hK
 simp only [Act.put, pqA, pqB, pqC]
 refine wpAnyH_ready (rs := [10]) (by kernel_rfl) (by simp) ?_
 refine AllReadyH.cons (o := ⟨some 68, Op.call { callee := Callee.value (Operand.func 35), args := #[Operand.tmp 62, Operand.tmp 65, Operand.tmp 67], argTypes := #[26, 9, 41] }, 31, _, _, none⟩) rfl (fun K hK => ?_) AllReadyH.nil
 rw [if_pos (by rfl)]
 have hap := HAp.out w6 (.slice va vn vc) (HDk.out.below B6.out HDk.out.lt) (HD.out.below B6.out) O6.out.row (fun k hk e => by have h1 := N6.out k hk; have h2 := HD.out.blk.lt; omega)
 rw [← hnn.out] at hap
 refine wp_callF 35 _ _ rfl Tryd.in35 #[ptr d, .string nn, .slice va vn vc] (by simp [Act.eval]) (fun vz wz => vz = .int .i64 (pw D) ∧ ∃ vf' cs', DskAt wz p vf' cs' DA ∧ Grown w6 wz (DskS p vf cs) ∧ ∀ k, DskS p vf' cs' k → DskS p vf cs k ∨ w6.heap.size ≤ k) ?_ ?_
 ·refine (hap).mono ?_
  rintro e wz ⟨rfl, vf', cs', h1, h2, h3⟩
  exact ⟨_, rfl, rfl, vf', cs', h1, h2, h3⟩
 rintro vz w7 ⟨rfl, vf7, cs7, h1, h2, h3⟩
 have D7 := Keep.mk h1
 have N7 : Keep (∀ k, DskS p vf7 cs7 k → N k ∨ w0.heap.size ≤ k) := ⟨fun k hk => by rcases h3 k hk with h | h; exact .inl (HN.out k (.inl h)); exact .inr (by have := B6.out.size; have := HG.out.size; omega)⟩
 have hne : ∀ {k : Nat} {T : TypeId}, Typ wi k T → T = 81 ∨ T = 88 → ¬ DskS p vf cs k := fun hk hT e => by rcases HD.out.sTyp e with h | h | h <;> (have := h.one hk; rcases hT with hT | hT <;> (rw [hT] at this; revert this; decide))
 have J7 : Keep (Blk w7 g 81 (jA d vp V.pr V.sz la false)) := ⟨h2.blk (HJ.out.below B6.out HJ.out.lt) (hne HJ.out.typ (.inl rfl))⟩
 have Q7 : Keep (Blk w7 q 88 #[.int .i64 (k : Int), .int .i64 a]) := ⟨h2.blk (HQ.out.below B6.out HQ.out.lt) (hne HQ.out.typ (.inr rfl))⟩
 have P7 : Keep (OwnP w7 vp V.pl) := ⟨(HP.out.grown (Grown.below (S := fun _ => False) B6.out) fun _ _ h => h).grown h2 fun k hk => hne (HP.out.typ hk) (.inr rfl)⟩
 have G7 : Keep (Grown w0 w7 N) := ⟨(HG.out.trans (Grown.below B6.out)).next h2 fun k _ e => HN.out k (.inl e)⟩
 clear h1 h2 h3 hne
 obtain ⟨ee, hee⟩ : ∃ z, Keep (z = pw D) := ⟨_, ⟨rfl⟩⟩
 rw [← hee.out]
 refine hK _ _ (HSx.out _ _ J7.out Q7.out) fun hH7 => ?_
 clear hK
 simp only [Act.put, pqA, pqB, pqC]
 refine wpAnyH_ready (rs := [11]) (by kernel_rfl) (by simp) ?_
 refine AllReadyH.cons (o := ⟨some 69, Op.call { callee := Callee.value (Operand.func 29), args := #[Operand.tmp 58, Operand.tmp 68], argTypes := #[56, 31] }, 31, _, _, none⟩) rfl (fun K hK => ?_) AllReadyH.nil
 rw [if_pos (by rfl)]
 refine wp_callF 29 _ _ rfl Tryd.in29 #[ptr g, .int .i64 ee] (by simp [Act.eval]) (fun vz wz => vz = .int .i64 ee ∧ (∃ de', Blk wz g 81 (jA d vp V.pr V.sz la de') ∧ (ee ≠ 7 → de' = false)) ∧ Grown w7 wz fun k => k = g) ?_ ?_
 ·refine (told_gen g d vp V.pr V.sz ee la false w7 J7.out).mono ?_
  rintro e wz ⟨rfl, h1, h2⟩
  exact ⟨_, rfl, rfl, h1, h2⟩
 rintro vz w8 ⟨rfl, ⟨de8, h1, h1'⟩, h2⟩
 have J8 := Keep.mk h1
 have HE8 := Keep.mk h1'
 have hgt : ∀ {k : Nat} {T : TypeId}, Typ w7 k T → T ≠ 81 → ¬ k = g := fun hk hT e => by subst e; exact hT (hk.one J7.out.typ)
 have D8 : Keep (DskAt w8 p vf7 cs7 DA) := ⟨D7.out.grown h2 fun k hk => by rcases hk with h | h | h <;> exact hgt h (by decide)⟩
 have Q8 : Keep (Blk w8 q 88 #[.int .i64 (k : Int), .int .i64 a]) := ⟨h2.blk Q7.out (hgt Q7.out.typ (by decide))⟩
 have P8 : Keep (OwnP w8 vp V.pl) := ⟨P7.out.grown h2 fun k hk => hgt (P7.out.typ hk) (by decide)⟩
 have G8 : Keep (Grown w0 w8 N) := ⟨G7.out.trans (h2.mono fun k _ e => HN.out k (.inr (.inl e)))⟩
 clear h1 h1' h2 hgt
 refine hK _ _ (HSx.out _ _ J8.out Q8.out) fun hH8 => ?_
 clear hK
 simp only [Act.put, pqA, pqB, pqC]
 refine tkS (i := 12) (oi := ⟨some 7, Op.assign (Operand.tmp 69), 31, _, _, none⟩) (v := .int .i64 ee) rfl (Or.inl ⟨by rfl, fun w hS => by obtain ⟨hS1, hS2⟩ := hS; go_simp⟩) hH8 ?_
 refine wpAnyH_done (by kernel_rfl) ?_ _
 refine hK1 _ _ ?_
 refine wp_seq_k fun K2 hK2 => ?_
 refine wp_seq_k fun K3 hK3 => ?_
 rcases Decidable.em (D.fuse = 0) with hfu | hfu
 ·have he : ee = 7 := by rw [hee.out]; unfold pw; rw [if_pos hfu]
  subst he
  refine rgn ?_
  refine VlS (.int .i64 7) ?_
  refine VlS (.bool false) ?_
  refine WL.nil (hK3 _ _ ?_)
  refine wp_cond_false rfl ?_
  refine wp_skip ?_
  refine hK2 _ _ ?_
  refine wp_seq_k fun K4 hK4 => ?_
  refine wp_seq_k fun K5 hK5 => rgn ?_
  refine VlS (.int .i64 7) ?_
  refine VlS (.bool true) ?_
  refine WL.nil (hK5 _ _ ?_)
  refine wp_cond_true rfl ?_
  refine wp_seq_k fun K6 hK6 => rgn ?_
  refine VlS (.int .i64 7) ?_
  refine VlS (.int .i64 7) ?_
  refine WL.nil (hK6 _ _ ?_)
  refine wp_ret ?_
  go_ret
  exact ⟨7, DA, V, la, de8, rfl, ⟨G8.out.blk HDk0.out Hd.out, vf7, cs7, vp, D8.out, J8.out, P8.out, fun k hk => ⟨by rcases hk with h | h; exact N7.out k h; exact .inl (HN.out k (.inr h)), by rcases hk with h | h | h; exact D8.out.sLt h; rw [h]; exact J8.out.lt; exact (P8.out.typ h).lt⟩⟩, G8.out, HAc.out, .inr (.inl ⟨rfl, HCr.out⟩)⟩
 ·have he : ee = 0 := by rw [hee.out]; unfold pw; rw [if_neg hfu]
  subst he
  have hde : de8 = false := HE8.out (by decide)
  subst hde
  have HJX := Keep.mk (HOk.out hfu)
  clear HE8
  refine rgn ?_
  refine VlS (.int .i64 0) ?_
  refine VlS (.bool false) ?_
  refine WL.nil (hK3 _ _ ?_)
  refine wp_cond_false rfl ?_
  refine wp_skip ?_
  refine hK2 _ _ ?_
  refine wp_seq_k fun K7 hK7 => ?_
  refine wp_seq_k fun K8 hK8 => rgn ?_
  refine VlS (.int .i64 0) ?_
  refine VlS (.bool false) ?_
  refine WL.nil (hK8 _ _ ?_)
  refine wp_cond_false rfl ?_
  refine wp_skip ?_
  refine hK7 _ _ ?_
  refine wp_seq_k fun K9 hK9 => ?_
  have J9 : Keep (Blk w8.drew g 81 (jA d vp V.pr V.sz la false)) := ⟨J8.out.drew⟩
  have D9 : Keep (DskAt w8.drew p vf7 cs7 DA) := ⟨D8.out.grown (Grown.refl w8 (fun _ => False)).drew fun _ _ h => h⟩
  have Q9 : Keep (Blk w8.drew q 88 #[.int .i64 (k : Int), .int .i64 a]) := ⟨Q8.out.drew⟩
  have P9 : Keep (OwnP w8.drew vp V.pl) := ⟨P8.out⟩
  have G9 : Keep (Grown w0 w8.drew N) := ⟨G8.out.drew⟩
  clear J8 D8 Q8 P8 G8 J7 D7 Q7 P7 G7
  obtain ⟨pa, pc, hvp⟩ := P9.out.sl
  subst hvp
  obtain ⟨pn, hpn⟩ : ∃ z, Keep (z = V.pl.length) := ⟨_, ⟨rfl⟩⟩
  rw [← hpn.out] at J9 P9 HN
  refine wp_region_held_drew (S := fun wx => Blk wx q 88 #[.int .i64 (k : Int), .int .i64 a]) (by kernel_rfl) Q9.out (fun hHeld => ?_)
  generalize w8.drew = w9 at *
  refine tkS (i := 0) (oi := ⟨some 75, Op.move (Operand.tmp 0), 56, _, _, none⟩) (v := .pointer (some ⟨g, 0, none⟩)) rfl (Or.inl ⟨by rfl, fun w hS => by go_simp⟩) hHeld ?_
  refine tkS (i := 1) (oi := ⟨some 76, Op.move (Operand.tmp 0), 56, _, _, none⟩) (v := .pointer (some ⟨g, 0, none⟩)) rfl (Or.inl ⟨by rfl, fun w hS => by go_simp⟩) hHeld ?_
  refine tkS (i := 2) (oi := ⟨some 77, Op.nilCheck (Operand.tmp 76), 0, _, _, none⟩) (v := .pointer (some ⟨g, 0, none⟩)) rfl (Or.inl ⟨by rfl, fun w hS => by go_simp⟩) hHeld ?_
  refine tkS (i := 3) (oi := ⟨some 78, Op.fieldAddr 81 (Operand.tmp 77) 1, 0, _, _, none⟩) (v := .pointer (some ⟨g, 1, none⟩)) rfl (Or.inl ⟨by rfl, fun w hS => by go_simp⟩) hHeld ?_
  refine tkS (i := 5) (oi := ⟨some 80, Op.load 88 (Operand.tmp 5), 88, _, _, none⟩) (v := .agg #[.int .i64 (k : Int), .int .i64 a]) rfl (yieldsIf_load_mid (by rfl) 88 (.tmp 5) rfl q 0 rfl (#[.int .i64 (k : Int), .int .i64 a] : Array Value).toList _ (fun w hS => blk_range hS) Tryd.underlying88 rfl (by kernel_rfl)) hHeld ?_
  refine wpAnyH_ready (rs := [4, 6]) (by kernel_rfl) (by simp) ?_
  refine AllReadyH.cons (o := ⟨some 79, Op.load 79 (Operand.tmp 78), 79, _, _, none⟩) rfl (fun K hK => ?_) (AllReadyH.cons (o := ⟨some 81, Op.buildSlice 79 1 #[(0, Operand.tmp 80)], 79, _, _, none⟩) rfl (fun K hK => ?_) AllReadyH.nil)
  rw [if_pos (by rfl)]
  have cl : w9.cell? ⟨g, 1, none⟩ = some (.slice pa pn pc) := J9.out.c 1 rfl
  refine wp_val (.slice pa pn pc) (by go_simp) ?_
  clear cl
  refine hK _ _ (Q9.out) fun hL9 => ?_
  clear hK
  simp only [Act.put, pqA, pqB, pqC]
  refine wpAnyH_ready (rs := [6]) (by kernel_rfl) (by simp) ?_
  refine AllReadyH.cons (o := ⟨some 81, Op.buildSlice 79 1 #[(0, Operand.tmp 80)], 79, _, _, none⟩) rfl (fun K hK => ?_) AllReadyH.nil
  rw [if_pos (by rfl)]
  refine wp_bs 79 1 _ rfl #[(0, .agg #[.int .i64 (k : Int), .int .i64 a])] (by simp [Act.eval]) _ _ (bsP (k : Int) a w9) ?_
  have hbx := below_new w9 (.cells #[.int .i64 (k : Int), .int .i64 a] 88)
  have HN10 := Keep.mk (Blk.new w9 88 #[.int .i64 (k : Int), .int .i64 a])
  have J10 := Keep.mk (J9.out.below hbx J9.out.lt)
  have Q10 := Keep.mk (Q9.out.below hbx Q9.out.lt)
  have P10 := Keep.mk (P9.out.grown (Grown.below (S := fun _ => False) hbx) fun _ _ h => h)
  have D10 := Keep.mk (D9.out.below hbx)
  have G10 : Keep (Grown w0 (w9.alloc (.cells #[.int .i64 (k : Int), .int .i64 a] 88)) N) := ⟨G9.out.trans (Grown.below hbx)⟩
  clear hbx
  generalize w9.alloc (.cells #[.int .i64 (k : Int), .int .i64 a] 88) = w10 at *
  obtain ⟨g9, hg9⟩ : ∃ p, Keep (p = w9.heap.size) := ⟨_, ⟨rfl⟩⟩
  rw [← hg9.out] at HN10 ⊢
  refine hK _ _ (Q10.out) fun hB10 => ?_
  clear hK
  simp only [Act.put, pqA, pqB, pqC]
  refine wpAnyH_ready (rs := [7]) (by kernel_rfl) (by simp) ?_
  refine AllReadyH.cons (o := ⟨some 82, Op.call { callee := Callee.builtin Builtin.append, args := #[Operand.tmp 79, Operand.tmp 81], argTypes := #[79, 79] }, 79, _, _, none⟩) rfl (fun K hK => ?_) AllReadyH.nil
  rw [if_pos (by rfl)]
  refine wp_appP (.tmp 79) (.tmp 81) rfl (.slice pa pn pc) V.pl g9 1 ((k : Int), a) rfl rfl P10.out HN10.out (by have := HPn.out; omega) fun v11 w11 h1 h2 h3 => ?_
  have hne : ∀ {k : Nat} {T : TypeId}, Typ w10 k T → T ≠ 88 → ¬ (Value.slice pa pn pc).ownBlock = some k := fun hk hT e => hT (hk.one (P10.out.typ e))
  have P11 := Keep.mk h1
  have M11 : Keep (∀ k, v11.ownBlock = some k → (Value.slice pa pn pc).ownBlock = some k ∨ w0.heap.size ≤ k) := ⟨fun k hk => by rcases h3 with e | ⟨j, e, hj⟩ <;> rw [hk] at e; exact .inl e.symm; right; have := Option.some.inj e; have := G10.out.size; omega⟩
  have J11 : Keep (Blk w11 g 81 (jA d (.slice pa pn pc) V.pr V.sz la false)) := ⟨h2.blk J10.out (hne J10.out.typ (by decide))⟩
  have Q11 : Keep (Blk w11 q 88 #[.int .i64 (k : Int), .int .i64 a]) := ⟨h2.blk Q10.out fun e => by have h1 := HNl.out q (HN.out q (.inr (.inr e))); have h2 := Hq.out; omega⟩
  have D11 : Keep (DskAt w11 p vf7 cs7 DA) := ⟨D10.out.grown h2 fun k hk => by rcases hk with h | h | h <;> exact hne h (by decide)⟩
  have G11 : Keep (Grown w0 w11 N) := ⟨G10.out.next h2 fun k _ e => HN.out k (.inr (.inr e))⟩
  clear h1 h2 h3 hne
  obtain ⟨a11, n11, c11, e11⟩ : ∃ a n c, v11 = .slice a n c := by obtain ⟨a, c, e⟩ := P11.out.sl; exact ⟨_, _, _, e⟩
  subst e11
  refine hK _ _ (Q11.out) fun hA11 => ?_
  clear hK
  simp only [Act.put, pqA, pqB, pqC]
  refine tkS (i := 8) (oi := ⟨some 83, Op.nilCheck (Operand.tmp 75), 0, _, _, none⟩) (v := .pointer (some ⟨g, 0, none⟩)) rfl (Or.inl ⟨by rfl, fun w hS => by go_simp⟩) hA11 ?_
  refine tkS (i := 9) (oi := ⟨some 84, Op.fieldAddr 81 (Operand.tmp 83) 1, 0, _, _, none⟩) (v := .pointer (some ⟨g, 1, none⟩)) rfl (Or.inl ⟨by rfl, fun w hS => by go_simp⟩) hA11 ?_
  refine wpAnyH_ready (rs := [10]) (by kernel_rfl) (by simp) ?_
  refine AllReadyH.cons (o := ⟨none, Op.store 79 (Operand.tmp 84) (Operand.tmp 82), 0, _, _, none⟩) rfl (fun K hK => ?_) AllReadyH.nil
  rw [if_pos (by rfl)]
  have f_o := J11.out.frozen 1
  have cl : w11.cell? ⟨g, 1, none⟩ = some (.slice pa pn pc) := J11.out.c 1 rfl
  refine wp_cellS (w11.setCell ⟨g, 1, none⟩ (.slice a11 n11 c11)) (by go_simp) ?_
  clear f_o cl
  have hgs : Grown w11 (w11.setCell ⟨g, 1, none⟩ (.slice a11 n11 c11)) fun k => k = g := Grown.setCell w11 g 1 _ fun _ => rfl
  have hgt : ∀ {k : Nat} {T : TypeId}, Typ w11 k T → T ≠ 81 → ¬ k = g := fun hk hT e => by subst e; exact hT (hk.one J11.out.typ)
  have J12 : Keep (Blk (w11.setCell ⟨g, 1, none⟩ (.slice a11 n11 c11)) g 81 (jA d (.slice a11 n11 c11) V.pr V.sz la false)) := ⟨J11.out.set 1 (.slice a11 n11 c11)⟩
  have Q12 : Keep (Blk (w11.setCell ⟨g, 1, none⟩ (.slice a11 n11 c11)) q 88 #[.int .i64 (k : Int), .int .i64 a]) := ⟨hgs.blk Q11.out (hgt Q11.out.typ (by decide))⟩
  have P12 : Keep (OwnP (w11.setCell ⟨g, 1, none⟩ (.slice a11 n11 c11)) (.slice a11 n11 c11) (V.pl ++ [((k : Int), a)])) := ⟨P11.out.grown hgs fun k hk => hgt (P11.out.typ hk) (by decide)⟩
  have D12 : Keep (DskAt (w11.setCell ⟨g, 1, none⟩ (.slice a11 n11 c11)) p vf7 cs7 DA) := ⟨D11.out.grown hgs fun k hk => by rcases hk with h | h | h <;> exact hgt h (by decide)⟩
  have G12 : Keep (Grown w0 (w11.setCell ⟨g, 1, none⟩ (.slice a11 n11 c11)) N) := ⟨G11.out.trans (hgs.mono fun k _ e => HN.out k (.inr (.inl e)))⟩
  clear hgs hgt J11 Q11 P11 D11 G11 J10 Q10 P10 D10 G10 J9 Q9 P9 D9 G9 HN10 hg9
  generalize (w11.setCell ⟨g, 1, none⟩ (.slice a11 n11 c11)) = w12 at *
  refine hK _ _ (Q12.out) fun hS12 => ?_
  clear hK
  simp only [Act.put, pqA, pqB, pqC]
  refine wpAnyH_done (by kernel_rfl) ?_ _
  rotate_left
  rw [if_pos (by rfl)]
  refine wp_bs 79 1 _ rfl #[(0, .agg #[.int .i64 (k : Int), .int .i64 a])] (by simp [Act.eval]) _ _ (bsP (k : Int) a w9) ?_
  have hbx := below_new w9 (.cells #[.int .i64 (k : Int), .int .i64 a] 88)
  have HN10 := Keep.mk (Blk.new w9 88 #[.int .i64 (k : Int), .int .i64 a])
  have J10 := Keep.mk (J9.out.below hbx J9.out.lt)
  have Q10 := Keep.mk (Q9.out.below hbx Q9.out.lt)
  have P10 := Keep.mk (P9.out.grown (Grown.below (S := fun _ => False) hbx) fun _ _ h => h)
  have D10 := Keep.mk (D9.out.below hbx)
  have G10 : Keep (Grown w0 (w9.alloc (.cells #[.int .i64 (k : Int), .int .i64 a] 88)) N) := ⟨G9.out.trans (Grown.below hbx)⟩
  clear hbx
  generalize w9.alloc (.cells #[.int .i64 (k : Int), .int .i64 a] 88) = w10 at *
  obtain ⟨g9, hg9⟩ : ∃ p, Keep (p = w9.heap.size) := ⟨_, ⟨rfl⟩⟩
  rw [← hg9.out] at HN10 ⊢
  refine hK _ _ (Q10.out) fun hB10 => ?_
  clear hK
  simp only [Act.put, pqA, pqB, pqC]
  refine wpAnyH_ready (rs := [4]) (by kernel_rfl) (by simp) ?_
  refine AllReadyH.cons (o := ⟨some 79, Op.load 79 (Operand.tmp 78), 79, _, _, none⟩) rfl (fun K hK => ?_) AllReadyH.nil
  rw [if_pos (by rfl)]
  have cl : w10.cell? ⟨g, 1, none⟩ = some (.slice pa pn pc) := J10.out.c 1 rfl
  refine wp_val (.slice pa pn pc) (by go_simp) ?_
  clear cl
  refine hK _ _ (Q10.out) fun hL10 => ?_
  clear hK
  simp only [Act.put, pqA, pqB, pqC]
  refine wpAnyH_ready (rs := [7]) (by kernel_rfl) (by simp) ?_
  refine AllReadyH.cons (o := ⟨some 82, Op.call { callee := Callee.builtin Builtin.append, args := #[Operand.tmp 79, Operand.tmp 81], argTypes := #[79, 79] }, 79, _, _, none⟩) rfl (fun K hK => ?_) AllReadyH.nil
  rw [if_pos (by rfl)]
  refine wp_appP (.tmp 79) (.tmp 81) rfl (.slice pa pn pc) V.pl g9 1 ((k : Int), a) rfl rfl P10.out HN10.out (by have := HPn.out; omega) fun v11 w11 h1 h2 h3 => ?_
  have hne : ∀ {k : Nat} {T : TypeId}, Typ w10 k T → T ≠ 88 → ¬ (Value.slice pa pn pc).ownBlock = some k := fun hk hT e => hT (hk.one (P10.out.typ e))
  have P11 := Keep.mk h1
  have M11 : Keep (∀ k, v11.ownBlock = some k → (Value.slice pa pn pc).ownBlock = some k ∨ w0.heap.size ≤ k) := ⟨fun k hk => by rcases h3 with e | ⟨j, e, hj⟩ <;> rw [hk] at e; exact .inl e.symm; right; have := Option.some.inj e; have := G10.out.size; omega⟩
  have J11 : Keep (Blk w11 g 81 (jA d (.slice pa pn pc) V.pr V.sz la false)) := ⟨h2.blk J10.out (hne J10.out.typ (by decide))⟩
  have Q11 : Keep (Blk w11 q 88 #[.int .i64 (k : Int), .int .i64 a]) := ⟨h2.blk Q10.out fun e => by have h1 := HNl.out q (HN.out q (.inr (.inr e))); have h2 := Hq.out; omega⟩
  have D11 : Keep (DskAt w11 p vf7 cs7 DA) := ⟨D10.out.grown h2 fun k hk => by rcases hk with h | h | h <;> exact hne h (by decide)⟩
  have G11 : Keep (Grown w0 w11 N) := ⟨G10.out.next h2 fun k _ e => HN.out k (.inr (.inr e))⟩
  clear h1 h2 h3 hne
  obtain ⟨a11, n11, c11, e11⟩ : ∃ a n c, v11 = .slice a n c := by obtain ⟨a, c, e⟩ := P11.out.sl; exact ⟨_, _, _, e⟩
  subst e11
  refine hK _ _ (Q11.out) fun hA11 => ?_
  clear hK
  simp only [Act.put, pqA, pqB, pqC]
  refine tkS (i := 8) (oi := ⟨some 83, Op.nilCheck (Operand.tmp 75), 0, _, _, none⟩) (v := .pointer (some ⟨g, 0, none⟩)) rfl (Or.inl ⟨by rfl, fun w hS => by go_simp⟩) hA11 ?_
  refine tkS (i := 9) (oi := ⟨some 84, Op.fieldAddr 81 (Operand.tmp 83) 1, 0, _, _, none⟩) (v := .pointer (some ⟨g, 1, none⟩)) rfl (Or.inl ⟨by rfl, fun w hS => by go_simp⟩) hA11 ?_
  refine wpAnyH_ready (rs := [10]) (by kernel_rfl) (by simp) ?_
  refine AllReadyH.cons (o := ⟨none, Op.store 79 (Operand.tmp 84) (Operand.tmp 82), 0, _, _, none⟩) rfl (fun K hK => ?_) AllReadyH.nil
  rw [if_pos (by rfl)]
  have f_o := J11.out.frozen 1
  have cl : w11.cell? ⟨g, 1, none⟩ = some (.slice pa pn pc) := J11.out.c 1 rfl
  refine wp_cellS (w11.setCell ⟨g, 1, none⟩ (.slice a11 n11 c11)) (by go_simp) ?_
  clear f_o cl
  have hgs : Grown w11 (w11.setCell ⟨g, 1, none⟩ (.slice a11 n11 c11)) fun k => k = g := Grown.setCell w11 g 1 _ fun _ => rfl
  have hgt : ∀ {k : Nat} {T : TypeId}, Typ w11 k T → T ≠ 81 → ¬ k = g := fun hk hT e => by subst e; exact hT (hk.one J11.out.typ)
  have J12 : Keep (Blk (w11.setCell ⟨g, 1, none⟩ (.slice a11 n11 c11)) g 81 (jA d (.slice a11 n11 c11) V.pr V.sz la false)) := ⟨J11.out.set 1 (.slice a11 n11 c11)⟩
  have Q12 : Keep (Blk (w11.setCell ⟨g, 1, none⟩ (.slice a11 n11 c11)) q 88 #[.int .i64 (k : Int), .int .i64 a]) := ⟨hgs.blk Q11.out (hgt Q11.out.typ (by decide))⟩
  have P12 : Keep (OwnP (w11.setCell ⟨g, 1, none⟩ (.slice a11 n11 c11)) (.slice a11 n11 c11) (V.pl ++ [((k : Int), a)])) := ⟨P11.out.grown hgs fun k hk => hgt (P11.out.typ hk) (by decide)⟩
  have D12 : Keep (DskAt (w11.setCell ⟨g, 1, none⟩ (.slice a11 n11 c11)) p vf7 cs7 DA) := ⟨D11.out.grown hgs fun k hk => by rcases hk with h | h | h <;> exact hgt h (by decide)⟩
  have G12 : Keep (Grown w0 (w11.setCell ⟨g, 1, none⟩ (.slice a11 n11 c11)) N) := ⟨G11.out.trans (hgs.mono fun k _ e => HN.out k (.inr (.inl e)))⟩
  clear hgs hgt J11 Q11 P11 D11 G11 J10 Q10 P10 D10 G10 J9 Q9 P9 D9 G9 HN10 hg9
  generalize (w11.setCell ⟨g, 1, none⟩ (.slice a11 n11 c11)) = w12 at *
  refine hK _ _ (Q12.out) fun hS12 => ?_
  clear hK
  simp only [Act.put, pqA, pqB, pqC]
  refine wpAnyH_done (by kernel_rfl) ?_ _
  rotate_left
  all_goals
   refine hK9 _ _ ?_
   refine wp_seq_k fun K11 hK11 => ?_
   have J13 : Keep (Blk w12.drew g 81 (jA d (.slice a11 n11 c11) V.pr V.sz la false)) := ⟨J12.out.drew⟩
   have Q13 : Keep (Blk w12.drew q 88 #[.int .i64 (k : Int), .int .i64 a]) := ⟨Q12.out.drew⟩
   have P13 : Keep (OwnP w12.drew (.slice a11 n11 c11) (V.pl ++ [((k : Int), a)])) := ⟨P12.out⟩
   have D13 : Keep (DskAt w12.drew p vf7 cs7 DA) := ⟨D12.out.grown (Grown.refl w12 (fun _ => False)).drew fun _ _ h => h⟩
   have G13 : Keep (Grown w0 w12.drew N) := ⟨G12.out.drew⟩
   have hw1 : IntKind.i64.wrap (a + 16) = a + 16 := by rw [IntKind.wrap_i64]; have := Ha.out; omega
   have hw2 : IntKind.i64.wrap (a + 16 + (l.length : Int)) = a + 16 + (l.length : Int) := by rw [IntKind.wrap_i64]; have := Ha.out; have := HPo.out.2; omega
   clear J12 Q12 P12 D12 G12
   refine wp_region_held_drew (S := fun wx => Blk wx q 88 #[.int .i64 (k : Int), .int .i64 a]) (by kernel_rfl) Q13.out (fun hHeld => ?_)
   generalize w12.drew = w13 at *
   refine tkS (i := 0) (oi := ⟨some 85, Op.move (Operand.tmp 0), 56, _, _, none⟩) (v := .pointer (some ⟨g, 0, none⟩)) rfl (Or.inl ⟨by rfl, fun w hS => by have q0 := hS.c 0 (by rfl : (#[.int .i64 (k : Int), .int .i64 a] : Array Value)[0]? = some (.int .i64 (k : Int))); have q1 := hS.c 1 (by rfl : (#[.int .i64 (k : Int), .int .i64 a] : Array Value)[1]? = some (.int .i64 a)); go_simp⟩) hHeld ?_
   refine tkS (i := 1) (oi := ⟨some 86, Op.move (Operand.tmp 0), 56, _, _, none⟩) (v := .pointer (some ⟨g, 0, none⟩)) rfl (Or.inl ⟨by rfl, fun w hS => by have q0 := hS.c 0 (by rfl : (#[.int .i64 (k : Int), .int .i64 a] : Array Value)[0]? = some (.int .i64 (k : Int))); have q1 := hS.c 1 (by rfl : (#[.int .i64 (k : Int), .int .i64 a] : Array Value)[1]? = some (.int .i64 a)); go_simp⟩) hHeld ?_
   refine tkS (i := 2) (oi := ⟨some 87, Op.fieldAddr 88 (Operand.tmp 5) 0, 0, _, _, none⟩) (v := .pointer (some ⟨q, 0, none⟩)) rfl (Or.inl ⟨by rfl, fun w hS => by have q0 := hS.c 0 (by rfl : (#[.int .i64 (k : Int), .int .i64 a] : Array Value)[0]? = some (.int .i64 (k : Int))); have q1 := hS.c 1 (by rfl : (#[.int .i64 (k : Int), .int .i64 a] : Array Value)[1]? = some (.int .i64 a)); go_simp⟩) hHeld ?_
   refine tkS (i := 3) (oi := ⟨some 88, Op.load 3 (Operand.tmp 87), 3, _, _, none⟩) (v := .int .i64 (k : Int)) rfl (Or.inl ⟨by rfl, fun w hS => by have q0 := hS.c 0 (by rfl : (#[.int .i64 (k : Int), .int .i64 a] : Array Value)[0]? = some (.int .i64 (k : Int))); have q1 := hS.c 1 (by rfl : (#[.int .i64 (k : Int), .int .i64 a] : Array Value)[1]? = some (.int .i64 a)); go_simp⟩) hHeld ?_
   refine tkS (i := 4) (oi := ⟨some 89, Op.fieldAddr 88 (Operand.tmp 5) 1, 0, _, _, none⟩) (v := .pointer (some ⟨q, 1, none⟩)) rfl (Or.inl ⟨by rfl, fun w hS => by have q0 := hS.c 0 (by rfl : (#[.int .i64 (k : Int), .int .i64 a] : Array Value)[0]? = some (.int .i64 (k : Int))); have q1 := hS.c 1 (by rfl : (#[.int .i64 (k : Int), .int .i64 a] : Array Value)[1]? = some (.int .i64 a)); go_simp⟩) hHeld ?_
   refine tkS (i := 5) (oi := ⟨some 90, Op.load 3 (Operand.tmp 89), 3, _, _, none⟩) (v := .int .i64 a) rfl (Or.inl ⟨by rfl, fun w hS => by have q0 := hS.c 0 (by rfl : (#[.int .i64 (k : Int), .int .i64 a] : Array Value)[0]? = some (.int .i64 (k : Int))); have q1 := hS.c 1 (by rfl : (#[.int .i64 (k : Int), .int .i64 a] : Array Value)[1]? = some (.int .i64 a)); go_simp⟩) hHeld ?_
   refine tkS (i := 6) (oi := ⟨some 91, Op.binOp BinOp.add 3 (Operand.tmp 90) (Operand.const (Value.int IntKind.i64 16)) 3, 3, _, _, none⟩) (v := .int .i64 (a + 16)) rfl (Or.inl ⟨by rfl, fun w hS => by have q0 := hS.c 0 (by rfl : (#[.int .i64 (k : Int), .int .i64 a] : Array Value)[0]? = some (.int .i64 (k : Int))); have q1 := hS.c 1 (by rfl : (#[.int .i64 (k : Int), .int .i64 a] : Array Value)[1]? = some (.int .i64 a)); go_simp⟩) hHeld ?_
   refine tkS (i := 7) (oi := ⟨some 92, Op.move (Operand.tmp 1), 41, _, _, none⟩) (v := .slice ba l.length bc) rfl (Or.inl ⟨by rfl, fun w hS => by have q0 := hS.c 0 (by rfl : (#[.int .i64 (k : Int), .int .i64 a] : Array Value)[0]? = some (.int .i64 (k : Int))); have q1 := hS.c 1 (by rfl : (#[.int .i64 (k : Int), .int .i64 a] : Array Value)[1]? = some (.int .i64 a)); go_simp⟩) hHeld ?_
   refine tkS (i := 8) (oi := ⟨some 93, Op.call { callee := Callee.builtin Builtin.len, args := #[Operand.tmp 92], argTypes := #[41] }, 3, _, _, none⟩) (v := .int .i64 (l.length : Int)) rfl (Or.inl ⟨by rfl, fun w hS => by have q0 := hS.c 0 (by rfl : (#[.int .i64 (k : Int), .int .i64 a] : Array Value)[0]? = some (.int .i64 (k : Int))); have q1 := hS.c 1 (by rfl : (#[.int .i64 (k : Int), .int .i64 a] : Array Value)[1]? = some (.int .i64 a)); go_simp⟩) hHeld ?_
   refine tkS (i := 9) (oi := ⟨some 94, Op.binOp BinOp.add 3 (Operand.tmp 91) (Operand.tmp 93) 3, 3, _, _, none⟩) (v := .int .i64 (a + 16 + (l.length : Int))) rfl (Or.inl ⟨by rfl, fun w hS => by have q0 := hS.c 0 (by rfl : (#[.int .i64 (k : Int), .int .i64 a] : Array Value)[0]? = some (.int .i64 (k : Int))); have q1 := hS.c 1 (by rfl : (#[.int .i64 (k : Int), .int .i64 a] : Array Value)[1]? = some (.int .i64 a)); go_simp⟩) hHeld ?_
   refine tkS (i := 10) (oi := ⟨some 95, Op.nilCheck (Operand.tmp 85), 0, _, _, none⟩) (v := .pointer (some ⟨g, 0, none⟩)) rfl (Or.inl ⟨by rfl, fun w hS => by have q0 := hS.c 0 (by rfl : (#[.int .i64 (k : Int), .int .i64 a] : Array Value)[0]? = some (.int .i64 (k : Int))); have q1 := hS.c 1 (by rfl : (#[.int .i64 (k : Int), .int .i64 a] : Array Value)[1]? = some (.int .i64 a)); go_simp⟩) hHeld ?_
   refine tkS (i := 11) (oi := ⟨some 96, Op.fieldAddr 81 (Operand.tmp 95) 2, 0, _, _, none⟩) (v := .pointer (some ⟨g, 2, none⟩)) rfl (Or.inl ⟨by rfl, fun w hS => by have q0 := hS.c 0 (by rfl : (#[.int .i64 (k : Int), .int .i64 a] : Array Value)[0]? = some (.int .i64 (k : Int))); have q1 := hS.c 1 (by rfl : (#[.int .i64 (k : Int), .int .i64 a] : Array Value)[1]? = some (.int .i64 a)); go_simp⟩) hHeld ?_
   refine wpAnyH_ready (rs := [12]) (by kernel_rfl) (by simp) ?_
   refine AllReadyH.cons (o := ⟨none, Op.store 3 (Operand.tmp 96) (Operand.tmp 88), 0, _, _, none⟩) rfl (fun K hK => ?_) AllReadyH.nil
   rw [if_pos (by rfl)]
   have f_o := J13.out.frozen 2
   have cl : w13.cell? ⟨g, 2, none⟩ = some (.int .i64 V.pr) := J13.out.c 2 rfl
   refine wp_cellS (w13.setCell ⟨g, 2, none⟩ (.int .i64 (k : Int))) (by go_simp) ?_
   clear f_o cl
   have hgs : Grown w13 (w13.setCell ⟨g, 2, none⟩ (.int .i64 (k : Int))) fun k => k = g := Grown.setCell w13 g 2 _ fun _ => rfl
   have hgt : ∀ {k : Nat} {T : TypeId}, Typ w13 k T → T ≠ 81 → ¬ k = g := fun hk hT e => by subst e; exact hT (hk.one J13.out.typ)
   have J14 : Keep (Blk (w13.setCell ⟨g, 2, none⟩ (.int .i64 (k : Int))) g 81 (jA d (.slice a11 n11 c11) (k : Int) V.sz la false)) := ⟨J13.out.set 2 (.int .i64 (k : Int))⟩
   have Q14 : Keep (Blk (w13.setCell ⟨g, 2, none⟩ (.int .i64 (k : Int))) q 88 #[.int .i64 (k : Int), .int .i64 a]) := ⟨hgs.blk Q13.out (hgt Q13.out.typ (by decide))⟩
   have P14 : Keep (OwnP (w13.setCell ⟨g, 2, none⟩ (.int .i64 (k : Int))) (.slice a11 n11 c11) (V.pl ++ [((k : Int), a)])) := ⟨P13.out.grown hgs fun k hk => hgt (P13.out.typ hk) (by decide)⟩
   have D14 : Keep (DskAt (w13.setCell ⟨g, 2, none⟩ (.int .i64 (k : Int))) p vf7 cs7 DA) := ⟨D13.out.grown hgs fun k hk => by rcases hk with h | h | h <;> exact hgt h (by decide)⟩
   have G14 : Keep (Grown w0 (w13.setCell ⟨g, 2, none⟩ (.int .i64 (k : Int))) N) := ⟨G13.out.trans (hgs.mono fun k _ e => HN.out k (.inr (.inl e)))⟩
   clear hgs hgt J13 Q13 P13 D13 G13
   generalize (w13.setCell ⟨g, 2, none⟩ (.int .i64 (k : Int))) = w14 at *
   refine hK _ _ (Q14.out) fun hS14 => ?_
   clear hK
   simp only [Act.put, pqA, pqB, pqC]
   refine tkS (i := 13) (oi := ⟨some 97, Op.nilCheck (Operand.tmp 86), 0, _, _, none⟩) (v := .pointer (some ⟨g, 0, none⟩)) rfl (Or.inl ⟨by rfl, fun w hS => by have q0 := hS.c 0 (by rfl : (#[.int .i64 (k : Int), .int .i64 a] : Array Value)[0]? = some (.int .i64 (k : Int))); have q1 := hS.c 1 (by rfl : (#[.int .i64 (k : Int), .int .i64 a] : Array Value)[1]? = some (.int .i64 a)); go_simp⟩) hS14 ?_
   refine tkS (i := 14) (oi := ⟨some 98, Op.fieldAddr 81 (Operand.tmp 97) 3, 0, _, _, none⟩) (v := .pointer (some ⟨g, 3, none⟩)) rfl (Or.inl ⟨by rfl, fun w hS => by have q0 := hS.c 0 (by rfl : (#[.int .i64 (k : Int), .int .i64 a] : Array Value)[0]? = some (.int .i64 (k : Int))); have q1 := hS.c 1 (by rfl : (#[.int .i64 (k : Int), .int .i64 a] : Array Value)[1]? = some (.int .i64 a)); go_simp⟩) hS14 ?_
   refine wpAnyH_ready (rs := [15]) (by kernel_rfl) (by simp) ?_
   refine AllReadyH.cons (o := ⟨none, Op.store 3 (Operand.tmp 98) (Operand.tmp 94), 0, _, _, none⟩) rfl (fun K hK => ?_) AllReadyH.nil
   rw [if_pos (by rfl)]
   have f_o := J14.out.frozen 3
   have cl : w14.cell? ⟨g, 3, none⟩ = some (.int .i64 V.sz) := J14.out.c 3 rfl
   refine wp_cellS (w14.setCell ⟨g, 3, none⟩ (.int .i64 (a + 16 + (l.length : Int)))) (by go_simp) ?_
   clear f_o cl
   have hgs : Grown w14 (w14.setCell ⟨g, 3, none⟩ (.int .i64 (a + 16 + (l.length : Int)))) fun k => k = g := Grown.setCell w14 g 3 _ fun _ => rfl
   have hgt : ∀ {k : Nat} {T : TypeId}, Typ w14 k T → T ≠ 81 → ¬ k = g := fun hk hT e => by subst e; exact hT (hk.one J14.out.typ)
   have J15 : Keep (Blk (w14.setCell ⟨g, 3, none⟩ (.int .i64 (a + 16 + (l.length : Int)))) g 81 (jA d (.slice a11 n11 c11) (k : Int) (a + 16 + (l.length : Int)) la false)) := ⟨J14.out.set 3 (.int .i64 (a + 16 + (l.length : Int)))⟩
   have Q15 : Keep (Blk (w14.setCell ⟨g, 3, none⟩ (.int .i64 (a + 16 + (l.length : Int)))) q 88 #[.int .i64 (k : Int), .int .i64 a]) := ⟨hgs.blk Q14.out (hgt Q14.out.typ (by decide))⟩
   have P15 : Keep (OwnP (w14.setCell ⟨g, 3, none⟩ (.int .i64 (a + 16 + (l.length : Int)))) (.slice a11 n11 c11) (V.pl ++ [((k : Int), a)])) := ⟨P14.out.grown hgs fun k hk => hgt (P14.out.typ hk) (by decide)⟩
   have D15 : Keep (DskAt (w14.setCell ⟨g, 3, none⟩ (.int .i64 (a + 16 + (l.length : Int)))) p vf7 cs7 DA) := ⟨D14.out.grown hgs fun k hk => by rcases hk with h | h | h <;> exact hgt h (by decide)⟩
   have G15 : Keep (Grown w0 (w14.setCell ⟨g, 3, none⟩ (.int .i64 (a + 16 + (l.length : Int)))) N) := ⟨G14.out.trans (hgs.mono fun k _ e => HN.out k (.inr (.inl e)))⟩
   clear hgs hgt J14 Q14 P14 D14 G14
   generalize (w14.setCell ⟨g, 3, none⟩ (.int .i64 (a + 16 + (l.length : Int)))) = w15 at *
   refine hK _ _ (Q15.out) fun hS15 => ?_
   clear hK
   simp only [Act.put, pqA, pqB, pqC]
   refine wpAnyH_done (by kernel_rfl) ?_ _
   refine hK11 _ _ ?_
   refine wp_seq_k fun K12 hK12 => rgn ?_
   refine VlS (.pointer (some ⟨g, 0, none⟩)) ?_
   refine VlS (.pointer (some ⟨g, 0, none⟩)) ?_
   refine VlS (.pointer (some ⟨g, 4, none⟩)) ?_
   have f_o := J15.out.frozen 4
   have cl := J15.out.c 4 (by rfl : (jA d (.slice a11 n11 c11) (k : Int) (a + 16 + (l.length : Int)) la false)[4]? = some (.bool la))
   refine WL.cell (by kernel_rfl) (w15.setCell ⟨g, 4, none⟩ (.bool true)) (by go_simp) ?_
   clear f_o cl
   have hgs : Grown w15 (w15.setCell ⟨g, 4, none⟩ (.bool true)) fun k => k = g := Grown.setCell w15 g 4 _ fun _ => rfl
   have hgt : ∀ {k : Nat} {T : TypeId}, Typ w15 k T → T ≠ 81 → ¬ k = g := fun hk hT e => by subst e; exact hT (hk.one J15.out.typ)
   have J16 : Keep (Blk (w15.setCell ⟨g, 4, none⟩ (.bool true)) g 81 (jA d (.slice a11 n11 c11) (k : Int) (a + 16 + (l.length : Int)) true false)) := ⟨J15.out.set 4 (.bool true)⟩
   have P16 : Keep (OwnP (w15.setCell ⟨g, 4, none⟩ (.bool true)) (.slice a11 n11 c11) (V.pl ++ [((k : Int), a)])) := ⟨P15.out.grown hgs fun k hk => hgt (P15.out.typ hk) (by decide)⟩
   have D16 : Keep (DskAt (w15.setCell ⟨g, 4, none⟩ (.bool true)) p vf7 cs7 DA) := ⟨D15.out.grown hgs fun k hk => by rcases hk with h | h | h <;> exact hgt h (by decide)⟩
   have G16 : Keep (Grown w0 (w15.setCell ⟨g, 4, none⟩ (.bool true)) N) := ⟨G15.out.trans (hgs.mono fun k _ e => HN.out k (.inr (.inl e)))⟩
   clear hgs hgt
   generalize (w15.setCell ⟨g, 4, none⟩ (.bool true)) = w16 at *
   simp only [Act.put]
   refine WL.nil (hK12 _ _ ?_)
   refine wp_seq_k fun K13 hK13 => rgn ?_
   refine VlS (.int .i64 0) ?_
   refine WL.nil (hK13 _ _ ?_)
   refine wp_ret ?_
   go_ret
   refine ⟨0, DA, V', true, false, rfl, ⟨G16.out.blk HDk0.out Hd.out, vf7, cs7, .slice a11 n11 c11, D16.out, ?_, ?_, fun k hk => ⟨?_, by rcases hk with h | h | h; exact D16.out.sLt h; rw [h]; exact J16.out.lt; exact (P16.out.typ h).lt⟩⟩, G16.out, HAc.out, .inl ⟨rfl, rfl, HV.out.1, HJX.out⟩⟩
   ·rw [HV.out.2.1, HV.out.2.2.1]; exact J16.out
   ·rw [HV.out.2.2.2]; exact P16.out
   ·rcases hk with h | h | h
    ·exact N7.out k h
    ·exact .inl (HN.out k (.inr (.inl h)))
    ·exact (M11.out k h).imp (fun e => HN.out k (.inr (.inr e))) id
theorem pigeon : ∀ (n : Nat) (l : List Nat), l.Nodup → (∀ x ∈ l, x < n) → l.length ≤ n
 | 0, l, _, h => by
  cases l with
  | nil => exact Nat.le_refl _
  | cons x r => have := h x (by simp); omega
 | n + 1, l, hn, h => by
  by_cases hm : n ∈ l
  ·have h1 := pigeon n (l.erase n) (hn.erase _) fun x hx => by
    obtain ⟨h2, h3⟩ := (List.Nodup.mem_erase_iff hn).1 hx
    have := h x h3
    omega
   rw [List.length_erase_of_mem hm] at h1
   omega
  ·have h1 := pigeon n l hn fun x hx => by
    have h2 := h x hx
    have : x ≠ n := fun e => hm (by rw [← e]; exact hx)
    omega
   omega
def nmI (n : ByteArray) : Nat := numV n.data.toList.tail
theorem nmI_is (j : Nat) : nmI (nmS j) = j := by
 unfold nmI
 rw [nmS_list, List.tail_cons, numV_zeros, numV_dig]
theorem JI.upto {D : DV} {V : JV} (h : JI D V) {f : PF} (hf : f ∈ D.fs) : ∃ j : Nat, (j : Int) ≤ V.pr ∧ j < 256 ∧ f.nm = nmS j ∧ lk D.fs (nmS j) = some f := by
 obtain ⟨j, hj, e⟩ := h.nm f hf
 have h1 := lk_mem h.ok.srt hf
 rw [e] at h1
 refine ⟨j, ?_, hj, e, h1⟩
 by_cases hp : (j : Int) ≤ V.pr
 ·exact hp
 ·rw [h.hi j (by omega) hj] at h1
  cases h1
theorem JI.count {D : DV} {V : JV} {m : Nat} (h : JI D V) (hp : V.pr = (m : Int) - 1) : D.fs.length ≤ m := by
 have h1 := pigeon m (D.fs.map fun f => nmI f.nm) (by
  refine List.pairwise_iff_getElem.2 fun a b ha hb hab e => ?_
  rw [List.length_map] at ha hb
  simp only [List.getElem_map] at e
  have h2 := List.pairwise_iff_getElem.1 h.ok.srt a b ha hb hab
  obtain ⟨ja, _, _, ea, _⟩ := h.upto (List.getElem_mem ha)
  obtain ⟨jb, _, _, eb, _⟩ := h.upto (List.getElem_mem hb)
  rw [ea, eb, nmI_is, nmI_is] at e
  rw [ea, eb, e] at h2
  exact nlt_irrefl _ h2) fun x hx => by
  obtain ⟨f, hf, rfl⟩ := List.mem_map.1 hx
  obtain ⟨j, h2, _, h3, _⟩ := h.upto hf
  show nmI f.nm < m
  rw [h3, nmI_is]
  omega
 rwa [List.length_map] at h1
theorem JI.few {D : DV} {V : JV} (h : JI D V) : V.ps.length ≤ 285216768 ∧ V.pl.length = V.ps.length := by
 have hb : ∀ k b, Fk D.fs k = some b → (rdB b).length ≤ 1114128 := fun k b hk => by
  unfold Fk at hk
  obtain ⟨f, hf, rfl⟩ := Option.map_eq_some_iff.1 hk
  obtain ⟨i, hi, _⟩ := lk_some hf
  have h2 := h.siz f (List.mem_of_getElem? hi)
  have h3 := frs_ge (rdB f.bs)
  have h4 := enB_le f.bs
  unfold enB at h4
  omega
 have hg : ∀ (n k : Nat) (s : JV), (rdJ (Fk D.fs) n k s).ps.length ≤ s.ps.length + n * 1114128 := fun n => by
  induction n with
  | zero => intro k s; exact Nat.le_refl _
  | succ n ih =>
   intro k s
   rw [rdJ]
   cases hk : Fk D.fs k with
   | none => simp only; omega
   | some b =>
    have h1 := hb k b hk
    have h2 : (s.more k b).ps.length ≤ s.ps.length + 1114128 := by simp only [JV.more, List.length_append]; omega
    simp only
    split
    ·omega
    ·have := ih (k + 1) (s.more k b)
     omega
 have h1 := hg 256 0 JV.nil
 have h2 := openV_len (Fk D.fs)
 have h3 : openV (Fk D.fs) = V := h.rd
 rw [h3] at h2
 have h4 : rdJ (Fk D.fs) 256 0 JV.nil = V := h3
 rw [h4] at h1
 have h5 : JV.nil.ps.length = 0 := rfl
 exact ⟨by omega, h2⟩
theorem JI.synced {D : DV} {V : JV} {i m : Nat} {f : PF} (h : JI D V) (hp : V.pr = (m : Int)) (hf : D.fs[i]? = some f) (hn : f.nm = nmS m) : ∀ (j : Nat) (g : PF), lk (D.sync i).fs (nmS j) = some g → g.sf = (g.bs.length : Int) := fun j g hg => by
 have h1 := (h.sync hp hf hn).1
 obtain ⟨i', hi', e⟩ := lk_some hg
 obtain ⟨j', h2, h3, h4, h5⟩ := h1.upto (List.mem_of_getElem? hi')
 obtain rfl : j' = j := nmS_inj (by rw [← h4, ← e])
 by_cases e2 : j' = m
 ·subst e2
  rw [lk_syn h.ok.srt hf hn, if_pos rfl] at hg
  injection hg with hg
  subst hg
  rfl
 ·exact h1.lo j' g (by omega) hg
theorem JI.none_safe {D : DV} {V : JV} (h : JI D V) (hp : V.pr = -1) : ∀ (j : Nat) (g : PF), lk D.fs (nmS j) = some g → g.sf = (g.bs.length : Int) := fun j g hg => by
 obtain ⟨i', hi', e⟩ := lk_some hg
 obtain ⟨j', h2, _⟩ := h.upto (List.mem_of_getElem? hi')
 omega
end Go.Proofs.YtlggejehaonkcaaDoor
