import Derived.Test.YtennogmeeefopaaDoorA09
import Derived.Deep.RegionHeld3
import Derived.Lib.Small
namespace Go.Proofs.YtennogmeeefopaaDoor
open Go.RowKit
set_option linter.unusedSimpArgs false
set_option linter.unusedVariables false

set_option maxRecDepth 8000 in
set_option maxHeartbeats 4000000 in
theorem crash_any (h p : Nat) (vk vf : Value) (kp : List Int) (cs : List FC) (D : DV) (w : World) (hH : Blk w h 77 #[ptr p]) (hD : DskAt w p vf cs D) (hKp : IntsAt w vk kp) (hKn : kp ≠ [] → ∀ k, vk.ownBlock = some k → k ≠ p ∧ vf.ownBlock ≠ some k) (hL : cs.length ≤ 1000000) (hS : ∀ f ∈ D.fs, 0 ≤ f.sf ∧ f.sf ≤ (f.bs.length : Int) ∧ f.bs.length ≤ 70368744177664) (hU : usd D.fs ≤ 70368744177664) :
  Calls Tryd.prog 14 #[ptr h, vk] w fun e w' => e = .returned (.tuple #[]) ∧ ∃ cs', DskAt w' p vf cs' (D.crash kp) ∧ (Grown w w' fun k => k = p ∨ vf.ownBlock = some k) ∧ ∀ k, DskS p vf cs' k → DskS p vf cs k ∨ w.heap.size ≤ k := by
 obtain ⟨va, vc, rfl⟩ := hD.own.sl
 obtain ⟨ka, kc, rfl⟩ := hKp.form
 have HH := Keep.mk hH
 have HD := Keep.mk hD
 have HKp := Keep.mk hKp
 have HKn := Keep.mk hKn
 have HL := Keep.mk hL
 have HS := Keep.mk hS
 have HU := Keep.mk hU
 clear hH hD hKp hKn hL hS hU
 go_enter Tryd.func14, Tryd.ntmps14
 have c0 := HH.out.c 0 (by rfl : (#[ptr p] : Array Value)[0]? = some (ptr p))
 refine wp_seq_k fun K1 hK1 => rgn ?_
 refine VlS (.pointer (some ⟨h, 0, none⟩)) ?_
 refine VlS (.pointer (some ⟨h, 0, none⟩)) ?_
 refine VlS (.pointer (some ⟨h, 0, none⟩)) ?_
 refine VlS (.pointer (some ⟨p, 0, none⟩)) ?_
 refine VlS (.pointer (some ⟨p, 0, none⟩)) ?_
 refine WL.nil (hK1 _ _ ?_)
 refine wp_seq_k fun K2 hK2 => rgn ?_
 refine VlS (.pointer (some ⟨p, 0, none⟩)) ?_
 refine VlS (.pointer (some ⟨p, 0, none⟩)) ?_
 refine VlS (.pointer (some ⟨p, 2, none⟩)) ?_
 have cl := HD.out.blk.c 2 (by rfl : (stA (.slice va cs.length vc) D)[2]? = some (.int .i64 D.used))
 have f_o := HD.out.blk.frozen 2
 refine WL.cell (by kernel_rfl) (w.setCell ⟨p, 2, none⟩ (.int .i64 0)) (by go_simp) ?_
 have HD1 : Keep (DskAt (w.setCell ⟨p, 2, none⟩ (.int .i64 0)) p (.slice va cs.length vc) cs { D with used := 0 }) := ⟨HD.out.put rfl rfl⟩
 have G1 : Keep (Grown w (w.setCell ⟨p, 2, none⟩ (.int .i64 0)) fun k => k = p ∨ (Value.slice va cs.length vc).ownBlock = some k) := ⟨Grown.setCell w p 2 _ fun _ => .inl rfl⟩
 clear c0 cl f_o
 generalize w.setCell ⟨p, 2, none⟩ (.int .i64 0) = w1 at *
 have p0 := HD1.out.blk.c 0 (by rfl : (stA (.slice va cs.length vc) { D with used := 0 })[0]? = some (.slice va cs.length vc))
 simp only [Act.put]
 refine WL.nil (hK2 _ _ ?_)
 refine wp_seq_k fun K3 hK3 => ?_
 refine wp_seq_k fun K4 hK4 => rgn ?_
 refine VlS (.pointer (some ⟨p, 0, none⟩)) ?_
 refine VlS (.pointer (some ⟨p, 0, none⟩)) ?_
 refine VlS (.pointer (some ⟨p, 0, none⟩)) ?_
 refine VlS (.slice va cs.length vc) ?_
 refine VlS (.int .i64 (cs.length : Int)) ?_
 refine VlS (.int .i64 0) ?_
 refine WL.nil (hK4 _ _ ?_)
 refine wp_block ?_
 refine wp_loop (fun ac wr => ∃ (t : Nat) (fz : Nat → Value) (ct : List FC) (Dt : DV), ac = { tmps := #[.pointer (some ⟨h, 0, none⟩), .slice ka kp.length kc, undef, undef, .pointer (some ⟨p, 0, none⟩), fz 5, fz 6, fz 7, fz 8, .pointer (some ⟨h, 0, none⟩), .pointer (some ⟨h, 0, none⟩), .pointer (some ⟨h, 0, none⟩), .pointer (some ⟨p, 0, none⟩), .pointer (some ⟨p, 0, none⟩), .pointer (some ⟨p, 0, none⟩), .pointer (some ⟨p, 2, none⟩), .pointer (some ⟨p, 0, none⟩), .pointer (some ⟨p, 0, none⟩), .pointer (some ⟨p, 0, none⟩), .slice va cs.length vc, .int .i64 (cs.length : Int), .int .i64 (t : Int), fz 22, fz 23, fz 24, fz 25, fz 26, fz 27, fz 28, fz 29, fz 30, fz 31, fz 32, fz 33, fz 34, fz 35, fz 36, fz 37, fz 38, fz 39, fz 40, fz 41, fz 42, fz 43, fz 44, fz 45, fz 46, fz 47, fz 48, fz 49, fz 50, fz 51, fz 52, fz 53, fz 54, fz 55, fz 56, fz 57, fz 58, fz 59, fz 60, fz 61, fz 62, fz 63, fz 64, fz 65, fz 66, fz 67, fz 68, fz 69, fz 70, fz 71, fz 72, fz 73, fz 74, fz 75, fz 76, fz 77, fz 78, fz 79, fz 80, fz 81, fz 82, fz 83, fz 84, fz 85, fz 86, fz 87, fz 88, undef, undef, undef, undef, undef, undef], defers := [] } ∧ t ≤ cs.length ∧ ct.length = cs.length ∧ DskAt wr p (.slice va cs.length vc) ct Dt ∧ Dt = { D with fs := crT kp t D.fs, used := usd ((crT kp t D.fs).take t) } ∧ Grown w wr (fun k => k = p ∨ (Value.slice va cs.length vc).ownBlock = some k) ∧ ∀ k, DskS p (.slice va cs.length vc) ct k → DskS p (.slice va cs.length vc) cs k ∨ w.heap.size ≤ k) (fun a _ => cs.length - (intOf (a.tmps.getD 21 undef)).toNat) ⟨0, fun zz => [.pointer (some ⟨h, 0, none⟩), .slice ka kp.length kc, undef, undef, .pointer (some ⟨p, 0, none⟩), undef, undef, undef, undef, .pointer (some ⟨h, 0, none⟩), .pointer (some ⟨h, 0, none⟩), .pointer (some ⟨h, 0, none⟩), .pointer (some ⟨p, 0, none⟩), .pointer (some ⟨p, 0, none⟩), .pointer (some ⟨p, 0, none⟩), .pointer (some ⟨p, 2, none⟩), .pointer (some ⟨p, 0, none⟩), .pointer (some ⟨p, 0, none⟩), .pointer (some ⟨p, 0, none⟩), .slice va cs.length vc, .int .i64 (cs.length : Int), .int .i64 0, undef, undef, undef, undef, undef, undef, undef, undef, undef, undef, undef, undef, undef, undef, undef, undef, undef, undef, undef, undef, undef, undef, undef, undef, undef, undef, undef, undef, undef, undef, undef, undef, undef, undef, undef, undef, undef, undef, undef, undef, undef, undef, undef, undef, undef, undef, undef, undef, undef, undef, undef, undef, undef, undef, undef, undef, undef, undef, undef, undef, undef, undef, undef, undef, undef, undef, undef, undef, undef, undef, undef, undef, undef].getD zz undef, cs, _, rfl, Nat.zero_le _, rfl, HD1.out, by rw [crT_zero]; rfl, G1.out, fun k h => .inl h⟩ ?_
 clear p0 HD1 G1
 rintro ac wr ⟨t, fz, ct, Dt, rfl, ht, hct, hJ1, hJ2, hJ3, hJ4⟩
 have JD := Keep.mk hJ1
 have JE := Keep.mk hJ2
 have JG := Keep.mk hJ3
 have JS := Keep.mk hJ4
 have JC := Keep.mk hct
 clear hJ1 hJ2 hJ3 hJ4 hct
 by_cases hlt : t < cs.length
 ·have hlt' : (t : Int) < (cs.length : Int) := by omega
  have hwt : IntKind.i64.wrap ((t : Int) + 1) = (t : Int) + 1 := by rw [IntKind.wrap_i64]; have := HL.out; omega
  have hLD : t < D.fs.length := by have := HD.out.fcs.len; omega
  obtain ⟨f, hf⟩ : ∃ f, D.fs[t]? = some f := ⟨D.fs[t]'hLD, List.getElem?_eq_getElem _⟩
  have HFd := Keep.mk hf
  have HFt : Keep (Dt.fs[t]? = some f) := ⟨by rw [JE.out]; show (crT kp t D.fs)[t]? = some f; rw [crT_at]; exact hf⟩
  obtain ⟨x, hx⟩ : ∃ x, ct[t]? = some x := ⟨ct[t]'(by have := JC.out; omega), List.getElem?_eq_getElem _⟩
  obtain ⟨g, ha, hrg⟩ := JD.out.own.at hx
  subst ha
  have hec := JD.out.fcs.each t x f hx HFt.out
  have hbf := HS.out f (List.mem_of_getElem? hf)
  obtain ⟨xn, xb, xs⟩ := x
  obtain ⟨xa, xc, hxb⟩ := row_form hec.2.2.row
  change xb = _ at hxb
  subst hxb
  have HX := Keep.mk hx
  have HXs : Keep (xs = f.sf) := ⟨hec.2.1⟩
  have HB : Keep (0 ≤ xs ∧ xs ≤ (f.bs.length : Int) ∧ f.bs.length ≤ 70368744177664) := ⟨by rw [HXs.out]; exact hbf⟩
  have HUt : Keep (0 ≤ Dt.used ∧ Dt.used ≤ 70368744177664) := ⟨by
   rw [JE.out]
   show 0 ≤ usd ((crT kp t D.fs).take t) ∧ usd ((crT kp t D.fs).take t) ≤ 70368744177664
   have h1 := usd_crT kp D.fs (fun f hf => ⟨(HS.out f hf).1, (HS.out f hf).2.1⟩) t (by omega)
   have h2 := usd_take D.fs t
   have h3 := usd_nonneg ((crT kp t D.fs).take t)
   have h4 := HU.out
   omega⟩
  clear hrg hec hx hf hbf
  have p0 := JD.out.blk.c 0 (by rfl : (stA (.slice (some ⟨g, 0, none⟩) cs.length vc) Dt)[0]? = some (.slice (some ⟨g, 0, none⟩) cs.length vc))
  refine wp_seq_k fun K5 hK5 => rgn ?_
  refine VlS (.bool true) ?_
  refine WL.nil (hK5 _ _ ?_)
  refine wp_seq_k fun K6 hK6 => ?_
  refine wp_cond_true rfl ?_
  refine wp_skip ?_
  refine hK6 _ _ ?_
  refine wp_seq_k fun K7 hK7 => ?_
  refine wp_block ?_
  refine wp_seq_k fun K8 hK8 => rgn ?_
  refine VlS (.int .i64 (t : Int)) ?_
  refine VlS (.int .i64 (t : Int)) ?_
  refine WL.nil (hK8 _ _ ?_)
  refine wp_seq_k fun K9 hK9 => rgn ?_
  refine VlS (.pointer (some ⟨p, 0, none⟩)) ?_
  refine VlS (.pointer (some ⟨p, 0, none⟩)) ?_
  refine VlS (.pointer (some ⟨p, 0, none⟩)) ?_
  refine VlS (.slice (some ⟨g, 0, none⟩) cs.length vc) ?_
  refine VlS (.int .i64 (t : Int)) ?_
  refine VlS (.pointer (some ⟨g, t * 3, none⟩)) ?_
  refine VlS (.pointer (some ⟨g, t * 3, none⟩)) ?_
  refine WL.nil (hK9 _ _ ?_)
  refine wp_seq_k fun K10 hK10 => rgn ?_
  refine VlS (.int .i64 0) ?_
  refine WL.nil (hK10 _ _ ?_)
  refine wp_seq_k fun K11 hK11 => ?_
  refine wp_seq_k fun K12 hK12 => rgn ?_
  refine VlS (.int .i64 (t : Int)) ?_
  refine VlS (.slice ka kp.length kc) ?_
  refine VlS (.int .i64 (kp.length : Int)) ?_
  by_cases h7_3 : (t : Int) < (kp.length : Int)
  ·skip
   refine VlS (.bool true) ?_
   refine WL.nil (hK12 _ _ ?_)
   refine wp_cond_true rfl ?_
   refine wp_seq_k fun K13 hK13 => ?_
   have hkn : kp ≠ [] := fun e => by rw [e] at h7_3; simp at h7_3; omega
   obtain ⟨q, ko, hq, hc⟩ := (HKp.out.grown JG.out fun k hk h => h.elim (HKn.out hkn k hk).1 (HKn.out hkn k hk).2).at (t := t) (by omega)
   clear hkn
   subst hq
   obtain ⟨kv, hkv⟩ : ∃ z, Keep (z = kp.getD t 0) := ⟨_, ⟨rfl⟩⟩
   rw [← hkv.out] at hc
   have ck : wr.drew.cell? ⟨q, ko + t, none⟩ = some (.int .i64 kv) := hc
   clear hc p0
   obtain ⟨mm, hmm⟩ : ∃ z, Keep (z = (f.bs.length : Int) - xs) := ⟨_, ⟨rfl⟩⟩
   obtain ⟨kk, hkk⟩ : ∃ z, Keep (z = (f.bs.length : Int) - xs + 1) := ⟨_, ⟨rfl⟩⟩
   have hw1 : IntKind.i64.wrap ((f.bs.length : Int) - xs) = mm := by have := hmm.out; have := HB.out; rw [IntKind.wrap_i64]; omega
   have hw2 : IntKind.i64.wrap (mm + 1) = kk := by have := hmm.out; have := hkk.out; have := HB.out; rw [IntKind.wrap_i64]; omega
   have hkp : Keep (0 < kk ∧ kk ≤ 70368744177665) := ⟨by have := hkk.out; have := HB.out; omega⟩
   have hk0 : ¬ kk = 0 := by have := hkp.out; omega
   obtain ⟨r2, hr2⟩ : ∃ z, Keep (z = Int.tmod kv kk + kk) := ⟨_, ⟨rfl⟩⟩
   have hw3 : IntKind.i64.wrap (Int.tmod kv kk + kk) = r2 := by have := hr2.out; have := hkp.out; have := tm_bnd kv kk (by omega); rw [IntKind.wrap_i64]; omega
   obtain ⟨nn, hnn⟩ : ∃ z, Keep (z = Int.tmod r2 kk) := ⟨_, ⟨rfl⟩⟩
   have hw4 : Int.tmod r2 kk = nn := hnn.out.symm
   have HN : Keep (nn = kpN kp t f) := ⟨by unfold kpN; rw [if_pos (by omega), ← HXs.out, ← hkk.out, ← hkv.out, ← hr2.out, hnn.out]⟩
   have JDd : Keep (DskAt wr.drew p (.slice (some ⟨g, 0, none⟩) cs.length vc) ct Dt) := ⟨JD.out.grown (Grown.refl wr (fun _ => False)).drew fun _ _ h => h⟩
   have JGd : Keep (Grown w wr.drew (fun k => k = p ∨ (Value.slice (some ⟨g, 0, none⟩) cs.length vc).ownBlock = some k)) := ⟨JG.out.drew⟩
   clear JD JG hmm hkk hr2 hnn hkv
   refine wp_region_held_drew (S := fun wx => wx.cell? ⟨g, t * 3 + 1, none⟩ = some (.slice xa f.bs.length xc) ∧ wx.cell? ⟨g, t * 3 + 2, none⟩ = some (.int .i64 xs)) (by kernel_rfl) (own_fc JDd.out.own HX.out) (fun hHeld => ?_)
   generalize wr.drew = wa at *
   have JD := JDd
   have JG := JGd
   clear JDd JGd
   refine tkS (i := 0) (oi := ⟨some 34, Op.move (Operand.tmp 6), 87, _, _, none⟩) (v := .pointer (some ⟨g, t * 3, none⟩)) rfl (Or.inl ⟨by rfl, fun w hS => by obtain ⟨hS1, hS2⟩ := hS; go_simp⟩) hHeld ?_
   refine tkS (i := 1) (oi := ⟨some 35, Op.nilCheck (Operand.tmp 34), 0, _, _, none⟩) (v := .pointer (some ⟨g, t * 3, none⟩)) rfl (Or.inl ⟨by rfl, fun w hS => by obtain ⟨hS1, hS2⟩ := hS; go_simp⟩) hHeld ?_
   refine tkS (i := 2) (oi := ⟨some 36, Op.fieldAddr 70 (Operand.tmp 35) 1, 0, _, _, none⟩) (v := .pointer (some ⟨g, t * 3 + 1, none⟩)) rfl (Or.inl ⟨by rfl, fun w hS => by obtain ⟨hS1, hS2⟩ := hS; go_simp⟩) hHeld ?_
   refine tkS (i := 3) (oi := ⟨some 37, Op.load 37 (Operand.tmp 36), 37, _, _, none⟩) (v := .slice xa f.bs.length xc) rfl (Or.inl ⟨by rfl, fun w hS => by obtain ⟨hS1, hS2⟩ := hS; go_simp⟩) hHeld ?_
   refine tkS (i := 4) (oi := ⟨some 38, Op.call { callee := Callee.builtin Builtin.len, args := #[Operand.tmp 37], argTypes := #[37] }, 3, _, _, none⟩) (v := .int .i64 (f.bs.length : Int)) rfl (Or.inl ⟨by rfl, fun w hS => by obtain ⟨hS1, hS2⟩ := hS; go_simp⟩) hHeld ?_
   refine tkS (i := 5) (oi := ⟨some 39, Op.move (Operand.tmp 6), 87, _, _, none⟩) (v := .pointer (some ⟨g, t * 3, none⟩)) rfl (Or.inl ⟨by rfl, fun w hS => by obtain ⟨hS1, hS2⟩ := hS; go_simp⟩) hHeld ?_
   refine tkS (i := 6) (oi := ⟨some 40, Op.nilCheck (Operand.tmp 39), 0, _, _, none⟩) (v := .pointer (some ⟨g, t * 3, none⟩)) rfl (Or.inl ⟨by rfl, fun w hS => by obtain ⟨hS1, hS2⟩ := hS; go_simp⟩) hHeld ?_
   refine tkS (i := 7) (oi := ⟨some 41, Op.fieldAddr 70 (Operand.tmp 40) 2, 0, _, _, none⟩) (v := .pointer (some ⟨g, t * 3 + 2, none⟩)) rfl (Or.inl ⟨by rfl, fun w hS => by obtain ⟨hS1, hS2⟩ := hS; go_simp⟩) hHeld ?_
   refine tkS (i := 8) (oi := ⟨some 42, Op.load 3 (Operand.tmp 41), 3, _, _, none⟩) (v := .int .i64 xs) rfl (Or.inl ⟨by rfl, fun w hS => by obtain ⟨hS1, hS2⟩ := hS; go_simp⟩) hHeld ?_
   refine tkS (i := 9) (oi := ⟨some 43, Op.binOp BinOp.sub 3 (Operand.tmp 38) (Operand.tmp 42) 3, 3, _, _, none⟩) (v := .int .i64 mm) rfl (Or.inl ⟨by rfl, fun w hS => by obtain ⟨hS1, hS2⟩ := hS; go_simp⟩) hHeld ?_
   refine tkS (i := 10) (oi := ⟨some 44, Op.binOp BinOp.add 3 (Operand.tmp 43) (Operand.const (Value.int IntKind.i64 1)) 3, 3, _, _, none⟩) (v := .int .i64 kk) rfl (Or.inl ⟨by rfl, fun w hS => by obtain ⟨hS1, hS2⟩ := hS; go_simp⟩) hHeld ?_
   refine tkS (i := 11) (oi := ⟨some 8, Op.assign (Operand.tmp 44), 3, _, _, none⟩) (v := .int .i64 kk) rfl (Or.inl ⟨by rfl, fun w hS => by obtain ⟨hS1, hS2⟩ := hS; go_simp⟩) hHeld ?_
   refine wpAnyH_done (by kernel_rfl) ?_ _
   refine hK13 _ _ ?_
   refine rgn ?_
   refine VlS (.slice (some ⟨q, ko, none⟩) kp.length kc) ?_
   refine VlS (.int .i64 (t : Int)) ?_
   refine VlS (.pointer (some ⟨q, ko + t, none⟩)) ?_
   refine VlS (.int .i64 kv) ?_
   refine VlS (.int .i64 kk) ?_
   refine VlS (.int .i64 (Int.tmod kv kk)) ?_
   refine VlS (.int .i64 kk) ?_
   refine VlS (.int .i64 r2) ?_
   refine VlS (.int .i64 kk) ?_
   refine VlS (.int .i64 nn) ?_
   refine VlS (.int .i64 nn) ?_
   refine WL.nil (hK11 _ _ ?_)
   refine wp_seq_k fun K14 hK14 => ?_
   clear ck hw1 hw2 hw3 hw4 hk0 hkp
   have HNb : Keep (0 ≤ nn ∧ nn ≤ (f.bs.length : Int) - xs) := ⟨by have h := HB.out; rw [HN.out, HXs.out]; rw [HXs.out] at h; exact kpN_le kp t f ⟨h.1, h.2.1⟩⟩
   obtain ⟨m, hm⟩ : ∃ m : Nat, Keep ((m : Int) = xs + nn) := ⟨(xs + nn).toNat, ⟨by have := HB.out; have := HNb.out; omega⟩⟩
   have hws : IntKind.i64.wrap (xs + nn) = (m : Int) := by have := hm.out; have := HB.out; have := HNb.out; rw [IntKind.wrap_i64]; omega
   have c2 := (own_fc JD.out.own HX.out).2
   change wa.cell? ⟨g, t * 3 + 2, none⟩ = some (.int .i64 xs) at c2
   have f_o : wa.frozen? ⟨g, t * 3 + 2, none⟩ = false := ownF_frozen JD.out.own _
   refine rgn ?_
   refine VlS (.pointer (some ⟨g, t * 3, none⟩)) ?_
   refine VlS (.pointer (some ⟨g, t * 3, none⟩)) ?_
   refine VlS (.pointer (some ⟨g, t * 3 + 2, none⟩)) ?_
   refine VlS (.int .i64 xs) ?_
   refine VlS (.int .i64 nn) ?_
   refine VlS (.int .i64 (m : Int)) ?_
   refine VlS (.pointer (some ⟨g, t * 3, none⟩)) ?_
   refine VlS (.pointer (some ⟨g, t * 3 + 2, none⟩)) ?_
   refine WL.cell (by kernel_rfl) (wa.setCell ⟨g, t * 3 + 2, none⟩ (.int .i64 (m : Int))) (by go_simp) ?_
   have JD2 : Keep (DskAt (wa.setCell ⟨g, t * 3 + 2, none⟩ (.int .i64 (m : Int))) p (.slice (some ⟨g, 0, none⟩) cs.length vc) (ct.set t ⟨xn, .slice xa f.bs.length xc, (m : Int)⟩) { Dt with fs := Dt.fs.set t { f with sf := (m : Int) } }) := ⟨dsk_sf (z := (m : Int)) JD.out HX.out HFt.out⟩
   have G2 : Keep (Grown w (wa.setCell ⟨g, t * 3 + 2, none⟩ (.int .i64 (m : Int))) (fun k => k = p ∨ (Value.slice (some ⟨g, 0, none⟩) cs.length vc).ownBlock = some k)) := ⟨JG.out.trans (Grown.setCell wa g _ _ fun _ => .inr rfl)⟩
   have HM : Keep (m ≤ f.bs.length) := ⟨by have := hm.out; have := HB.out; have := HNb.out; omega⟩
   have HX2 : Keep ((ct.set t (⟨xn, .slice xa f.bs.length xc, (m : Int)⟩ : FC))[t]? = some (⟨xn, .slice xa f.bs.length xc, (m : Int)⟩ : FC)) := ⟨List.getElem?_set_self (List.getElem?_eq_some_iff.1 HX.out).1⟩
   have HF2 : Keep ((Dt.fs.set t { f with sf := (m : Int) })[t]? = some ({ f with sf := (m : Int) } : PF)) := ⟨List.getElem?_set_self (List.getElem?_eq_some_iff.1 HFt.out).1⟩
   clear c2 f_o hws JD JG
   generalize (wa.setCell ⟨g, t * 3 + 2, none⟩ (.int .i64 (m : Int))) = w2 at *
   obtain ⟨D2, hD2⟩ : ∃ z : DV, Keep (z = { Dt with fs := Dt.fs.set t { f with sf := (m : Int) } }) := ⟨_, ⟨rfl⟩⟩
   have HF3 : Keep (D2.fs[t]? = some ({ f with sf := (m : Int) } : PF)) := ⟨by rw [hD2.out]; exact HF2.out⟩
   have HU3 : Keep (D2.used = Dt.used) := ⟨by rw [hD2.out]⟩
   rw [← hD2.out] at JD2
   obtain ⟨c2, hc2⟩ : ∃ z : List FC, Keep (z = ct.set t ⟨xn, .slice xa f.bs.length xc, (m : Int)⟩) := ⟨_, ⟨rfl⟩⟩
   rw [← hc2.out] at JD2 HX2
   clear HF2
   simp only [Act.put]
   refine WL.nil (hK14 _ _ ?_)
   refine wp_seq_k fun K15 hK15 => ?_
   have JD3 : Keep (DskAt w2.drew p (.slice (some ⟨g, 0, none⟩) cs.length vc) c2 D2) := ⟨JD2.out.grown (Grown.refl w2 (fun _ => False)).drew fun _ _ h => h⟩
   have G3 : Keep (Grown w w2.drew (fun k => k = p ∨ (Value.slice (some ⟨g, 0, none⟩) cs.length vc).ownBlock = some k)) := ⟨G2.out.drew⟩
   clear JD2 G2
   have HR3 : Keep (RowAt w2.drew (.slice xa f.bs.length xc) f.bs) := ⟨(JD3.out.fcs.each t _ _ HX2.out HF3.out).2.2.row⟩
   obtain ⟨vs, hs1, hs2⟩ := sub_any (.slice xa f.bs.length xc) f.bs w2.drew HR3.out m HM.out
   have HS1 := Keep.mk hs1
   have HS2 := Keep.mk hs2
   clear hs1 hs2
   refine wp_region_held_drew (S := fun wx => wx.cell? ⟨g, t * 3 + 2, none⟩ = some (.int .i64 (m : Int))) (by kernel_rfl) (own_fc JD3.out.own HX2.out).2 (fun hHeld => ?_)
   generalize w2.drew = w3 at *
   refine tkS (i := 0) (oi := ⟨some 63, Op.move (Operand.tmp 6), 87, _, _, none⟩) (v := .pointer (some ⟨g, t * 3, none⟩)) rfl (Or.inl ⟨by rfl, fun w hS => by go_simp⟩) hHeld ?_
   refine tkS (i := 2) (oi := ⟨some 65, Op.move (Operand.tmp 6), 87, _, _, none⟩) (v := .pointer (some ⟨g, t * 3, none⟩)) rfl (Or.inl ⟨by rfl, fun w hS => by go_simp⟩) hHeld ?_
   refine tkS (i := 3) (oi := ⟨some 66, Op.nilCheck (Operand.tmp 65), 0, _, _, none⟩) (v := .pointer (some ⟨g, t * 3, none⟩)) rfl (Or.inl ⟨by rfl, fun w hS => by go_simp⟩) hHeld ?_
   refine tkS (i := 4) (oi := ⟨some 67, Op.fieldAddr 70 (Operand.tmp 66) 1, 0, _, _, none⟩) (v := .pointer (some ⟨g, t * 3 + 1, none⟩)) rfl (Or.inl ⟨by rfl, fun w hS => by go_simp⟩) hHeld ?_
   refine tkS (i := 6) (oi := ⟨some 69, Op.move (Operand.tmp 6), 87, _, _, none⟩) (v := .pointer (some ⟨g, t * 3, none⟩)) rfl (Or.inl ⟨by rfl, fun w hS => by go_simp⟩) hHeld ?_
   refine tkS (i := 7) (oi := ⟨some 70, Op.nilCheck (Operand.tmp 69), 0, _, _, none⟩) (v := .pointer (some ⟨g, t * 3, none⟩)) rfl (Or.inl ⟨by rfl, fun w hS => by go_simp⟩) hHeld ?_
   refine tkS (i := 8) (oi := ⟨some 71, Op.fieldAddr 70 (Operand.tmp 70) 2, 0, _, _, none⟩) (v := .pointer (some ⟨g, t * 3 + 2, none⟩)) rfl (Or.inl ⟨by rfl, fun w hS => by go_simp⟩) hHeld ?_
   refine tkS (i := 9) (oi := ⟨some 72, Op.load 3 (Operand.tmp 71), 3, _, _, none⟩) (v := .int .i64 (m : Int)) rfl (Or.inl ⟨by rfl, fun w hS => by go_simp⟩) hHeld ?_
   refine wpAnyH_ready (rs := [1, 5]) (by kernel_rfl) (by simp) ?_
   refine AllReadyH.cons (o := ⟨some 64, Op.buildSlice 37 0 #[], 37, _, _, none⟩) rfl (fun K hK => ?_) (AllReadyH.cons (o := ⟨some 68, Op.load 37 (Operand.tmp 67), 37, _, _, none⟩) rfl (fun K hK => ?_) AllReadyH.nil)
   rw [if_pos (by rfl)]
   refine wp_bsj 37 0 _ rfl #[] (by simp) _ _ (bsBE w3) ?_
   have hbx := below_new w3 (.cells #[] 5)
   have HE4 : Keep (Own (w3.alloc (.cells #[] 5)) (.slice (some ⟨w3.heap.size, 0, none⟩) 0 0) []) := ⟨own_empty _ _ (Blk.new w3 5 #[])⟩
   have JD4 := Keep.mk (JD3.out.below hbx)
   have B4 := Keep.mk hbx
   clear hbx
   generalize w3.alloc (.cells #[] 5) = w4 at *
   obtain ⟨ge, hge⟩ : ∃ q, Keep (q = w3.heap.size) := ⟨_, ⟨rfl⟩⟩
   rw [← hge.out] at HE4 ⊢
   refine hK _ _ (own_fc JD4.out.own HX2.out).2 fun hB4 => ?_
   clear hK
   simp only [Act.put, pqA, pqB, pqC]
   refine wpAnyH_ready (rs := [5]) (by kernel_rfl) (by simp) ?_
   refine AllReadyH.cons (o := ⟨some 68, Op.load 37 (Operand.tmp 67), 37, _, _, none⟩) rfl (fun K hK => ?_) AllReadyH.nil
   rw [if_pos (by rfl)]
   have cl : w4.cell? ⟨g, t * 3 + 1, none⟩ = some (.slice xa f.bs.length xc) := (own_fc JD4.out.own HX2.out).1
   refine wp_val (.slice xa f.bs.length xc) (by go_simp) ?_
   clear cl
   refine hK _ _ (own_fc JD4.out.own HX2.out).2 fun hL4 => ?_
   clear hK
   simp only [Act.put, pqA, pqB, pqC]
   refine tkS (i := 10) (oi := ⟨some 73, Op.slice 37 (Operand.tmp 68) none (some (Operand.tmp 72)) none, 37, _, _, none⟩) (v := vs) rfl (yieldsIf_slice (by rfl) 37 (.tmp 68) (.tmp 72) rfl (.slice xa f.bs.length xc) (.int .i64 (m : Int)) vs rfl rfl HS1.out) hL4 ?_
   refine wpAnyH_ready (rs := [11]) (by kernel_rfl) (by simp) ?_
   refine AllReadyH.cons (o := ⟨some 74, Op.call { callee := Callee.builtin Builtin.append, args := #[Operand.tmp 64, Operand.tmp 73], argTypes := #[37, 37] }, 37, _, _, none⟩) rfl (fun K hK => ?_) AllReadyH.nil
   rw [if_pos (by rfl)]
   refine wp_app (.tmp 64) (.tmp 73) rfl (.slice (some ⟨ge, 0, none⟩) 0 0) vs [] (f.bs.take m) rfl rfl HE4.out (HS2.out w4 (HR3.out.below B4.out)) (by have := HB.out; simp; omega) fun v9 w9 hp => ?_
   have HV9 : Keep (Own w9 v9 (f.bs.take m)) := ⟨by have h := hp.1; rw [List.nil_append] at h; exact h⟩
   have N9 : Keep (∀ k, v9.ownBlock = some k → w3.heap.size ≤ k) := ⟨own_new hp B4.out.size fun k hk => by have e : ge = k := Option.some.inj hk; have := hge.out; omega⟩
   have B9 : Keep (Below w3.heap.size w3 w9) := ⟨B4.out.trans (hp.grown.to_below (B := w3.heap.size) (fun k hk e => by have e : ge = k := Option.some.inj e; have := hge.out; omega) B4.out.size)⟩
   have JD9 := Keep.mk (JD3.out.below B9.out)
   clear hp
   obtain ⟨a9, n9, k9, e9⟩ := HV9.out.sl
   subst e9
   refine hK _ _ (own_fc JD9.out.own HX2.out).2 fun hA9 => ?_
   clear hK
   simp only [Act.put, pqA, pqB, pqC]
   refine tkS (i := 12) (oi := ⟨some 75, Op.nilCheck (Operand.tmp 63), 0, _, _, none⟩) (v := .pointer (some ⟨g, t * 3, none⟩)) rfl (Or.inl ⟨by rfl, fun w hS => by go_simp⟩) hA9 ?_
   refine tkS (i := 13) (oi := ⟨some 76, Op.fieldAddr 70 (Operand.tmp 75) 1, 0, _, _, none⟩) (v := .pointer (some ⟨g, t * 3 + 1, none⟩)) rfl (Or.inl ⟨by rfl, fun w hS => by go_simp⟩) hA9 ?_
   refine wpAnyH_ready (rs := [14]) (by kernel_rfl) (by simp) ?_
   refine AllReadyH.cons (o := ⟨none, Op.store 37 (Operand.tmp 76) (Operand.tmp 74), 0, _, _, none⟩) rfl (fun K hK => ?_) AllReadyH.nil
   rw [if_pos (by rfl)]
   have f_o : w9.frozen? ⟨g, t * 3 + 1, none⟩ = false := ownF_frozen JD9.out.own _
   have cl := (own_fc JD9.out.own HX2.out).1
   refine wp_cellS (w9.setCell ⟨g, t * 3 + 1, none⟩ (.slice a9 n9 k9)) (by go_simp) ?_
   clear f_o cl
   have JD10 : Keep (DskAt (w9.setCell ⟨g, t * 3 + 1, none⟩ (.slice a9 n9 k9)) p (.slice (some ⟨g, 0, none⟩) cs.length vc) (c2.set t (⟨xn, .slice a9 n9 k9, (m : Int)⟩ : FC)) { D2 with fs := D2.fs.set t ({ nm := f.nm, bs := f.bs.take m, sf := (m : Int) } : PF) }) := ⟨dsk_newb JD3.out HX2.out HF3.out B9.out HV9.out N9.out⟩
   have HX10 : Keep ((c2.set t (⟨xn, .slice a9 n9 k9, (m : Int)⟩ : FC))[t]? = some (⟨xn, .slice a9 n9 k9, (m : Int)⟩ : FC)) := ⟨List.getElem?_set_self (List.getElem?_eq_some_iff.1 HX2.out).1⟩
   have G10 : Keep (Grown w (w9.setCell ⟨g, t * 3 + 1, none⟩ (.slice a9 n9 k9)) (fun k => k = p ∨ (Value.slice (some ⟨g, 0, none⟩) cs.length vc).ownBlock = some k)) := ⟨(G3.out.trans (Grown.below B9.out)).trans (Grown.setCell w9 g _ _ fun _ => .inr rfl)⟩
   have N10 : Keep (∀ k, (Value.slice a9 n9 k9).ownBlock = some k → w.heap.size ≤ k) := ⟨fun k hk => Nat.le_trans G3.out.size (N9.out k hk)⟩
   clear JD9 JD3 G3 B9 HV9 N9 JD4 HE4 B4 HS1 HS2 HR3
   generalize (w9.setCell ⟨g, t * 3 + 1, none⟩ (.slice a9 n9 k9)) = w10 at *
   refine hK _ _ (own_fc JD10.out.own HX10.out).2 fun hS10 => ?_
   clear hK
   simp only [Act.put, pqA, pqB, pqC]
   refine wpAnyH_done (by kernel_rfl) ?_ _
   rotate_left
   rw [if_pos (by rfl)]
   have cl : w3.cell? ⟨g, t * 3 + 1, none⟩ = some (.slice xa f.bs.length xc) := (own_fc JD3.out.own HX2.out).1
   refine wp_val (.slice xa f.bs.length xc) (by go_simp) ?_
   clear cl
   refine hK _ _ (own_fc JD3.out.own HX2.out).2 fun hL3 => ?_
   clear hK
   simp only [Act.put, pqA, pqB, pqC]
   refine tkS (i := 10) (oi := ⟨some 73, Op.slice 37 (Operand.tmp 68) none (some (Operand.tmp 72)) none, 37, _, _, none⟩) (v := vs) rfl (yieldsIf_slice (by rfl) 37 (.tmp 68) (.tmp 72) rfl (.slice xa f.bs.length xc) (.int .i64 (m : Int)) vs rfl rfl HS1.out) hL3 ?_
   refine wpAnyH_ready (rs := [1]) (by kernel_rfl) (by simp) ?_
   refine AllReadyH.cons (o := ⟨some 64, Op.buildSlice 37 0 #[], 37, _, _, none⟩) rfl (fun K hK => ?_) AllReadyH.nil
   rw [if_pos (by rfl)]
   refine wp_bsj 37 0 _ rfl #[] (by simp) _ _ (bsBE w3) ?_
   have hbx := below_new w3 (.cells #[] 5)
   have HE4 : Keep (Own (w3.alloc (.cells #[] 5)) (.slice (some ⟨w3.heap.size, 0, none⟩) 0 0) []) := ⟨own_empty _ _ (Blk.new w3 5 #[])⟩
   have JD4 := Keep.mk (JD3.out.below hbx)
   have B4 := Keep.mk hbx
   clear hbx
   generalize w3.alloc (.cells #[] 5) = w4 at *
   obtain ⟨ge, hge⟩ : ∃ q, Keep (q = w3.heap.size) := ⟨_, ⟨rfl⟩⟩
   rw [← hge.out] at HE4 ⊢
   refine hK _ _ (own_fc JD4.out.own HX2.out).2 fun hB4 => ?_
   clear hK
   simp only [Act.put, pqA, pqB, pqC]
   refine wpAnyH_ready (rs := [11]) (by kernel_rfl) (by simp) ?_
   refine AllReadyH.cons (o := ⟨some 74, Op.call { callee := Callee.builtin Builtin.append, args := #[Operand.tmp 64, Operand.tmp 73], argTypes := #[37, 37] }, 37, _, _, none⟩) rfl (fun K hK => ?_) AllReadyH.nil
   rw [if_pos (by rfl)]
   refine wp_app (.tmp 64) (.tmp 73) rfl (.slice (some ⟨ge, 0, none⟩) 0 0) vs [] (f.bs.take m) rfl rfl HE4.out (HS2.out w4 (HR3.out.below B4.out)) (by have := HB.out; simp; omega) fun v9 w9 hp => ?_
   have HV9 : Keep (Own w9 v9 (f.bs.take m)) := ⟨by have h := hp.1; rw [List.nil_append] at h; exact h⟩
   have N9 : Keep (∀ k, v9.ownBlock = some k → w3.heap.size ≤ k) := ⟨own_new hp B4.out.size fun k hk => by have e : ge = k := Option.some.inj hk; have := hge.out; omega⟩
   have B9 : Keep (Below w3.heap.size w3 w9) := ⟨B4.out.trans (hp.grown.to_below (B := w3.heap.size) (fun k hk e => by have e : ge = k := Option.some.inj e; have := hge.out; omega) B4.out.size)⟩
   have JD9 := Keep.mk (JD3.out.below B9.out)
   clear hp
   obtain ⟨a9, n9, k9, e9⟩ := HV9.out.sl
   subst e9
   refine hK _ _ (own_fc JD9.out.own HX2.out).2 fun hA9 => ?_
   clear hK
   simp only [Act.put, pqA, pqB, pqC]
   refine tkS (i := 12) (oi := ⟨some 75, Op.nilCheck (Operand.tmp 63), 0, _, _, none⟩) (v := .pointer (some ⟨g, t * 3, none⟩)) rfl (Or.inl ⟨by rfl, fun w hS => by go_simp⟩) hA9 ?_
   refine tkS (i := 13) (oi := ⟨some 76, Op.fieldAddr 70 (Operand.tmp 75) 1, 0, _, _, none⟩) (v := .pointer (some ⟨g, t * 3 + 1, none⟩)) rfl (Or.inl ⟨by rfl, fun w hS => by go_simp⟩) hA9 ?_
   refine wpAnyH_ready (rs := [14]) (by kernel_rfl) (by simp) ?_
   refine AllReadyH.cons (o := ⟨none, Op.store 37 (Operand.tmp 76) (Operand.tmp 74), 0, _, _, none⟩) rfl (fun K hK => ?_) AllReadyH.nil
   rw [if_pos (by rfl)]
   have f_o : w9.frozen? ⟨g, t * 3 + 1, none⟩ = false := ownF_frozen JD9.out.own _
   have cl := (own_fc JD9.out.own HX2.out).1
   refine wp_cellS (w9.setCell ⟨g, t * 3 + 1, none⟩ (.slice a9 n9 k9)) (by go_simp) ?_
   clear f_o cl
   have JD10 : Keep (DskAt (w9.setCell ⟨g, t * 3 + 1, none⟩ (.slice a9 n9 k9)) p (.slice (some ⟨g, 0, none⟩) cs.length vc) (c2.set t (⟨xn, .slice a9 n9 k9, (m : Int)⟩ : FC)) { D2 with fs := D2.fs.set t ({ nm := f.nm, bs := f.bs.take m, sf := (m : Int) } : PF) }) := ⟨dsk_newb JD3.out HX2.out HF3.out B9.out HV9.out N9.out⟩
   have HX10 : Keep ((c2.set t (⟨xn, .slice a9 n9 k9, (m : Int)⟩ : FC))[t]? = some (⟨xn, .slice a9 n9 k9, (m : Int)⟩ : FC)) := ⟨List.getElem?_set_self (List.getElem?_eq_some_iff.1 HX2.out).1⟩
   have G10 : Keep (Grown w (w9.setCell ⟨g, t * 3 + 1, none⟩ (.slice a9 n9 k9)) (fun k => k = p ∨ (Value.slice (some ⟨g, 0, none⟩) cs.length vc).ownBlock = some k)) := ⟨(G3.out.trans (Grown.below B9.out)).trans (Grown.setCell w9 g _ _ fun _ => .inr rfl)⟩
   have N10 : Keep (∀ k, (Value.slice a9 n9 k9).ownBlock = some k → w.heap.size ≤ k) := ⟨fun k hk => Nat.le_trans G3.out.size (N9.out k hk)⟩
   clear JD9 JD3 G3 B9 HV9 N9 JD4 HE4 B4 HS1 HS2 HR3
   generalize (w9.setCell ⟨g, t * 3 + 1, none⟩ (.slice a9 n9 k9)) = w10 at *
   refine hK _ _ (own_fc JD10.out.own HX10.out).2 fun hS10 => ?_
   clear hK
   simp only [Act.put, pqA, pqB, pqC]
   refine wpAnyH_done (by kernel_rfl) ?_ _
   rotate_left
   all_goals
    refine hK15 _ _ ?_
    have JD11 : Keep (DskAt w10.drew p (.slice (some ⟨g, 0, none⟩) cs.length vc) (c2.set t (⟨xn, .slice a9 n9 k9, (m : Int)⟩ : FC)) { D2 with fs := D2.fs.set t ({ nm := f.nm, bs := f.bs.take m, sf := (m : Int) } : PF) }) := ⟨JD10.out.grown (Grown.refl w10 (fun _ => False)).drew fun _ _ h => h⟩
    have G11 : Keep (Grown w w10.drew (fun k => k = p ∨ (Value.slice (some ⟨g, 0, none⟩) cs.length vc).ownBlock = some k)) := ⟨G10.out.drew⟩
    have hgp : Keep (g ≠ p) := ⟨fun e => JD11.out.own.ne JD11.out.blk (by decide) (by rw [e]; rfl)⟩
    have hwu : IntKind.i64.wrap (D2.used + (m : Int)) = D2.used + (m : Int) := by rw [IntKind.wrap_i64]; have := HUt.out; have := HU3.out; have := HM.out; have := HB.out; omega
    clear JD10 G10
    refine wp_region_held_drew (S := fun wx => wx.cell? ⟨g, t * 3 + 2, none⟩ = some (.int .i64 (m : Int))) (by kernel_rfl) (own_fc JD11.out.own HX10.out).2 (fun hHeld => ?_)
    generalize w10.drew = w11 at *
    refine tkS (i := 0) (oi := ⟨some 77, Op.move (Operand.tmp 4), 71, _, _, none⟩) (v := .pointer (some ⟨p, 0, none⟩)) rfl (Or.inl ⟨by rfl, fun w hS => by go_simp⟩) hHeld ?_
    refine tkS (i := 1) (oi := ⟨some 78, Op.nilCheck (Operand.tmp 77), 0, _, _, none⟩) (v := .pointer (some ⟨p, 0, none⟩)) rfl (Or.inl ⟨by rfl, fun w hS => by go_simp⟩) hHeld ?_
    refine tkS (i := 2) (oi := ⟨some 79, Op.fieldAddr 73 (Operand.tmp 78) 2, 0, _, _, none⟩) (v := .pointer (some ⟨p, 2, none⟩)) rfl (Or.inl ⟨by rfl, fun w hS => by go_simp⟩) hHeld ?_
    refine tkS (i := 4) (oi := ⟨some 81, Op.move (Operand.tmp 6), 87, _, _, none⟩) (v := .pointer (some ⟨g, t * 3, none⟩)) rfl (Or.inl ⟨by rfl, fun w hS => by go_simp⟩) hHeld ?_
    refine tkS (i := 5) (oi := ⟨some 82, Op.nilCheck (Operand.tmp 81), 0, _, _, none⟩) (v := .pointer (some ⟨g, t * 3, none⟩)) rfl (Or.inl ⟨by rfl, fun w hS => by go_simp⟩) hHeld ?_
    refine tkS (i := 6) (oi := ⟨some 83, Op.fieldAddr 70 (Operand.tmp 82) 2, 0, _, _, none⟩) (v := .pointer (some ⟨g, t * 3 + 2, none⟩)) rfl (Or.inl ⟨by rfl, fun w hS => by go_simp⟩) hHeld ?_
    refine tkS (i := 7) (oi := ⟨some 84, Op.load 3 (Operand.tmp 83), 3, _, _, none⟩) (v := .int .i64 (m : Int)) rfl (Or.inl ⟨by rfl, fun w hS => by go_simp⟩) hHeld ?_
    refine wpAnyH_ready (rs := [3]) (by kernel_rfl) (by simp) ?_
    refine AllReadyH.cons (o := ⟨some 80, Op.load 3 (Operand.tmp 79), 3, _, _, none⟩) rfl (fun K hK => ?_) AllReadyH.nil
    rw [if_pos (by rfl)]
    have cl : w11.cell? ⟨p, 2, none⟩ = some (.int .i64 D2.used) := JD11.out.blk.c 2 rfl
    refine wp_val (.int .i64 D2.used) (by go_simp) ?_
    clear cl
    refine hK _ _ (own_fc JD11.out.own HX10.out).2 fun hH1 => ?_
    clear hK
    simp only [Act.put, pqA, pqB, pqC]
    refine tkS (i := 8) (oi := ⟨some 85, Op.binOp BinOp.add 3 (Operand.tmp 80) (Operand.tmp 84) 3, 3, _, _, none⟩) (v := .int .i64 (D2.used + (m : Int))) rfl (Or.inl ⟨by rfl, fun w hS => by go_simp⟩) hH1 ?_
    refine tkS (i := 9) (oi := ⟨some 86, Op.nilCheck (Operand.tmp 77), 0, _, _, none⟩) (v := .pointer (some ⟨p, 0, none⟩)) rfl (Or.inl ⟨by rfl, fun w hS => by go_simp⟩) hH1 ?_
    refine tkS (i := 10) (oi := ⟨some 87, Op.fieldAddr 73 (Operand.tmp 86) 2, 0, _, _, none⟩) (v := .pointer (some ⟨p, 2, none⟩)) rfl (Or.inl ⟨by rfl, fun w hS => by go_simp⟩) hH1 ?_
    refine wpAnyH_ready (rs := [11]) (by kernel_rfl) (by simp) ?_
    refine AllReadyH.cons (o := ⟨none, Op.store 3 (Operand.tmp 87) (Operand.tmp 85), 0, _, _, none⟩) rfl (fun K hK => ?_) AllReadyH.nil
    rw [if_pos (by rfl)]
    have f_o := JD11.out.blk.frozen 2
    have cl : w11.cell? ⟨p, 2, none⟩ = some (.int .i64 D2.used) := JD11.out.blk.c 2 rfl
    refine wp_cellS (w11.setCell ⟨p, 2, none⟩ (.int .i64 (D2.used + (m : Int)))) (by go_simp) ?_
    clear f_o cl
    have JD12 : Keep (DskAt (w11.setCell ⟨p, 2, none⟩ (.int .i64 (D2.used + (m : Int)))) p (.slice (some ⟨g, 0, none⟩) cs.length vc) (c2.set t (⟨xn, .slice a9 n9 k9, (m : Int)⟩ : FC)) { D2 with fs := D2.fs.set t ({ nm := f.nm, bs := f.bs.take m, sf := (m : Int) } : PF), used := D2.used + (m : Int) }) := ⟨JD11.out.put rfl rfl⟩
    have G12 : Keep (Grown w (w11.setCell ⟨p, 2, none⟩ (.int .i64 (D2.used + (m : Int)))) (fun k => k = p ∨ (Value.slice (some ⟨g, 0, none⟩) cs.length vc).ownBlock = some k)) := ⟨G11.out.trans (Grown.setCell w11 p 2 _ fun _ => .inl rfl)⟩
    clear JD11 G11 hwu
    generalize (w11.setCell ⟨p, 2, none⟩ (.int .i64 (D2.used + (m : Int)))) = w12 at *
    refine hK _ _ (own_fc JD12.out.own HX10.out).2 fun hS12 => ?_
    clear hK
    simp only [Act.put, pqA, pqB, pqC]
    refine wpAnyH_done (by kernel_rfl) ?_ _
    refine hK7 _ _ ?_
    refine rgn ?_
    refine VlS (.int .i64 ((t : Int) + 1)) ?_
    refine VlS (.int .i64 ((t : Int) + 1)) ?_
    refine WL.nil ?_
    refine ⟨⟨t + 1, fun zz => [.pointer (some ⟨h, 0, none⟩), .slice (some ⟨q, ko, none⟩) kp.length kc, undef, undef, .pointer (some ⟨p, 0, none⟩), .int .i64 (t : Int), .pointer (some ⟨g, t * 3, none⟩), .int .i64 nn, .int .i64 kk, .pointer (some ⟨h, 0, none⟩), .pointer (some ⟨h, 0, none⟩), .pointer (some ⟨h, 0, none⟩), .pointer (some ⟨p, 0, none⟩), .pointer (some ⟨p, 0, none⟩), .pointer (some ⟨p, 0, none⟩), .pointer (some ⟨p, 2, none⟩), .pointer (some ⟨p, 0, none⟩), .pointer (some ⟨p, 0, none⟩), .pointer (some ⟨p, 0, none⟩), .slice (some ⟨g, 0, none⟩) cs.length vc, .int .i64 (cs.length : Int), .int .i64 ((t : Int) + 1), .bool true, .int .i64 (t : Int), .pointer (some ⟨p, 0, none⟩), .pointer (some ⟨p, 0, none⟩), .pointer (some ⟨p, 0, none⟩), .slice (some ⟨g, 0, none⟩) cs.length vc, .int .i64 (t : Int), .pointer (some ⟨g, t * 3, none⟩), .int .i64 (t : Int), .slice (some ⟨q, ko, none⟩) kp.length kc, .int .i64 (kp.length : Int), .bool true, .pointer (some ⟨g, t * 3, none⟩), .pointer (some ⟨g, t * 3, none⟩), .pointer (some ⟨g, t * 3 + 1, none⟩), .slice xa f.bs.length xc, .int .i64 (f.bs.length : Int), .pointer (some ⟨g, t * 3, none⟩), .pointer (some ⟨g, t * 3, none⟩), .pointer (some ⟨g, t * 3 + 2, none⟩), .int .i64 xs, .int .i64 mm, .int .i64 kk, .slice (some ⟨q, ko, none⟩) kp.length kc, .int .i64 (t : Int), .pointer (some ⟨q, ko + t, none⟩), .int .i64 kv, .int .i64 kk, .int .i64 (Int.tmod kv kk), .int .i64 kk, .int .i64 r2, .int .i64 kk, .int .i64 nn, .pointer (some ⟨g, t * 3, none⟩), .pointer (some ⟨g, t * 3, none⟩), .pointer (some ⟨g, t * 3 + 2, none⟩), .int .i64 xs, .int .i64 nn, .int .i64 (m : Int), .pointer (some ⟨g, t * 3, none⟩), .pointer (some ⟨g, t * 3 + 2, none⟩), .pointer (some ⟨g, t * 3, none⟩), .slice (some ⟨ge, 0, none⟩) 0 0, .pointer (some ⟨g, t * 3, none⟩), .pointer (some ⟨g, t * 3, none⟩), .pointer (some ⟨g, t * 3 + 1, none⟩), .slice xa f.bs.length xc, .pointer (some ⟨g, t * 3, none⟩), .pointer (some ⟨g, t * 3, none⟩), .pointer (some ⟨g, t * 3 + 2, none⟩), .int .i64 (m : Int), vs, .slice a9 n9 k9, .pointer (some ⟨g, t * 3, none⟩), .pointer (some ⟨g, t * 3 + 1, none⟩), .pointer (some ⟨p, 0, none⟩), .pointer (some ⟨p, 0, none⟩), .pointer (some ⟨p, 2, none⟩), .int .i64 D2.used, .pointer (some ⟨g, t * 3, none⟩), .pointer (some ⟨g, t * 3, none⟩), .pointer (some ⟨g, t * 3 + 2, none⟩), .int .i64 (m : Int), .int .i64 (D2.used + (m : Int)), .pointer (some ⟨p, 0, none⟩), .pointer (some ⟨p, 2, none⟩), .int .i64 ((t : Int) + 1), undef, undef, undef, undef, undef, undef].getD zz undef, c2.set t (⟨xn, .slice a9 n9 k9, (m : Int)⟩ : FC), _, rfl, by omega, by rw [hc2.out, List.length_set, List.length_set]; exact JC.out, JD12.out, ?_, G12.out, ?_⟩, ?_⟩
    ·have hcr : f.crash (kpN kp t f) = ({ nm := f.nm, bs := f.bs.take m, sf := (m : Int) } : PF) := by
      have e : f.sf + kpN kp t f = (m : Int) := by rw [← HXs.out, ← HN.out]; exact hm.out.symm
      unfold PF.crash
      rw [e, Int.toNat_natCast]
     have hLt : t < (crT kp t D.fs).length := by rw [crT_len]; exact hLD
     rw [crT_step kp t D.fs f HFd.out, hcr, usd_step _ _ _ hLt]
     have e1 : D2.fs.set t ({ nm := f.nm, bs := f.bs.take m, sf := (m : Int) } : PF) = (crT kp t D.fs).set t ({ nm := f.nm, bs := f.bs.take m, sf := (m : Int) } : PF) := by rw [hD2.out, JE.out]; exact List.set_set ..
     have e2 : D2.used = usd ((crT kp t D.fs).take t) := by rw [HU3.out, JE.out]
     have e3 : ((f.bs.take m).length : Int) = (m : Int) := by rw [List.length_take]; have := HM.out; omega
     rw [e1, e2]
     show _ = _
     rw [hD2.out, JE.out]
     simp only [e3]
    ·intro k hk
     have h1 := dskS_newb (B := w.heap.size) HX2.out N10.out k hk
     rcases h1 with h1 | h1
     ·rw [hc2.out] at h1
      exact JS.out k (dskS_sync (x := (⟨xn, .slice xa f.bs.length xc, xs⟩ : FC)) HX.out h1)
     ·exact .inr h1
    ·simp only [intOf]; show cs.length - ((t : Int) + 1).toNat < cs.length - ((t : Int)).toNat; omega
  ·skip
   refine VlS (.bool false) ?_
   refine WL.nil (hK12 _ _ ?_)
   refine wp_cond_false rfl ?_
   refine wp_skip ?_
   refine hK11 _ _ ?_
   refine wp_seq_k fun K17 hK17 => ?_
   obtain ⟨nn, hnn⟩ : ∃ z, Keep (z = (0 : Int)) := ⟨_, ⟨rfl⟩⟩
   have HN : Keep (nn = kpN kp t f) := ⟨by unfold kpN; rw [if_neg (by omega), hnn.out]⟩
   rw [← hnn.out]
   clear p0 hnn
   have HNb : Keep (0 ≤ nn ∧ nn ≤ (f.bs.length : Int) - xs) := ⟨by have h := HB.out; rw [HN.out, HXs.out]; rw [HXs.out] at h; exact kpN_le kp t f ⟨h.1, h.2.1⟩⟩
   obtain ⟨m, hm⟩ : ∃ m : Nat, Keep ((m : Int) = xs + nn) := ⟨(xs + nn).toNat, ⟨by have := HB.out; have := HNb.out; omega⟩⟩
   have hws : IntKind.i64.wrap (xs + nn) = (m : Int) := by have := hm.out; have := HB.out; have := HNb.out; rw [IntKind.wrap_i64]; omega
   have c2 := (own_fc JD.out.own HX.out).2
   change wr.cell? ⟨g, t * 3 + 2, none⟩ = some (.int .i64 xs) at c2
   have f_o : wr.frozen? ⟨g, t * 3 + 2, none⟩ = false := ownF_frozen JD.out.own _
   refine rgn ?_
   refine VlS (.pointer (some ⟨g, t * 3, none⟩)) ?_
   refine VlS (.pointer (some ⟨g, t * 3, none⟩)) ?_
   refine VlS (.pointer (some ⟨g, t * 3 + 2, none⟩)) ?_
   refine VlS (.int .i64 xs) ?_
   refine VlS (.int .i64 nn) ?_
   refine VlS (.int .i64 (m : Int)) ?_
   refine VlS (.pointer (some ⟨g, t * 3, none⟩)) ?_
   refine VlS (.pointer (some ⟨g, t * 3 + 2, none⟩)) ?_
   refine WL.cell (by kernel_rfl) (wr.setCell ⟨g, t * 3 + 2, none⟩ (.int .i64 (m : Int))) (by go_simp) ?_
   have JD2 : Keep (DskAt (wr.setCell ⟨g, t * 3 + 2, none⟩ (.int .i64 (m : Int))) p (.slice (some ⟨g, 0, none⟩) cs.length vc) (ct.set t ⟨xn, .slice xa f.bs.length xc, (m : Int)⟩) { Dt with fs := Dt.fs.set t { f with sf := (m : Int) } }) := ⟨dsk_sf (z := (m : Int)) JD.out HX.out HFt.out⟩
   have G2 : Keep (Grown w (wr.setCell ⟨g, t * 3 + 2, none⟩ (.int .i64 (m : Int))) (fun k => k = p ∨ (Value.slice (some ⟨g, 0, none⟩) cs.length vc).ownBlock = some k)) := ⟨JG.out.trans (Grown.setCell wr g _ _ fun _ => .inr rfl)⟩
   have HM : Keep (m ≤ f.bs.length) := ⟨by have := hm.out; have := HB.out; have := HNb.out; omega⟩
   have HX2 : Keep ((ct.set t (⟨xn, .slice xa f.bs.length xc, (m : Int)⟩ : FC))[t]? = some (⟨xn, .slice xa f.bs.length xc, (m : Int)⟩ : FC)) := ⟨List.getElem?_set_self (List.getElem?_eq_some_iff.1 HX.out).1⟩
   have HF2 : Keep ((Dt.fs.set t { f with sf := (m : Int) })[t]? = some ({ f with sf := (m : Int) } : PF)) := ⟨List.getElem?_set_self (List.getElem?_eq_some_iff.1 HFt.out).1⟩
   clear c2 f_o hws JD JG
   generalize (wr.setCell ⟨g, t * 3 + 2, none⟩ (.int .i64 (m : Int))) = w2 at *
   obtain ⟨D2, hD2⟩ : ∃ z : DV, Keep (z = { Dt with fs := Dt.fs.set t { f with sf := (m : Int) } }) := ⟨_, ⟨rfl⟩⟩
   have HF3 : Keep (D2.fs[t]? = some ({ f with sf := (m : Int) } : PF)) := ⟨by rw [hD2.out]; exact HF2.out⟩
   have HU3 : Keep (D2.used = Dt.used) := ⟨by rw [hD2.out]⟩
   rw [← hD2.out] at JD2
   obtain ⟨c2, hc2⟩ : ∃ z : List FC, Keep (z = ct.set t ⟨xn, .slice xa f.bs.length xc, (m : Int)⟩) := ⟨_, ⟨rfl⟩⟩
   rw [← hc2.out] at JD2 HX2
   clear HF2
   simp only [Act.put]
   refine WL.nil (hK17 _ _ ?_)
   refine wp_seq_k fun K18 hK18 => ?_
   have JD3 : Keep (DskAt w2.drew p (.slice (some ⟨g, 0, none⟩) cs.length vc) c2 D2) := ⟨JD2.out.grown (Grown.refl w2 (fun _ => False)).drew fun _ _ h => h⟩
   have G3 : Keep (Grown w w2.drew (fun k => k = p ∨ (Value.slice (some ⟨g, 0, none⟩) cs.length vc).ownBlock = some k)) := ⟨G2.out.drew⟩
   clear JD2 G2
   have HR3 : Keep (RowAt w2.drew (.slice xa f.bs.length xc) f.bs) := ⟨(JD3.out.fcs.each t _ _ HX2.out HF3.out).2.2.row⟩
   obtain ⟨vs, hs1, hs2⟩ := sub_any (.slice xa f.bs.length xc) f.bs w2.drew HR3.out m HM.out
   have HS1 := Keep.mk hs1
   have HS2 := Keep.mk hs2
   clear hs1 hs2
   refine wp_region_held_drew (S := fun wx => wx.cell? ⟨g, t * 3 + 2, none⟩ = some (.int .i64 (m : Int))) (by kernel_rfl) (own_fc JD3.out.own HX2.out).2 (fun hHeld => ?_)
   generalize w2.drew = w3 at *
   refine tkS (i := 0) (oi := ⟨some 63, Op.move (Operand.tmp 6), 87, _, _, none⟩) (v := .pointer (some ⟨g, t * 3, none⟩)) rfl (Or.inl ⟨by rfl, fun w hS => by go_simp⟩) hHeld ?_
   refine tkS (i := 2) (oi := ⟨some 65, Op.move (Operand.tmp 6), 87, _, _, none⟩) (v := .pointer (some ⟨g, t * 3, none⟩)) rfl (Or.inl ⟨by rfl, fun w hS => by go_simp⟩) hHeld ?_
   refine tkS (i := 3) (oi := ⟨some 66, Op.nilCheck (Operand.tmp 65), 0, _, _, none⟩) (v := .pointer (some ⟨g, t * 3, none⟩)) rfl (Or.inl ⟨by rfl, fun w hS => by go_simp⟩) hHeld ?_
   refine tkS (i := 4) (oi := ⟨some 67, Op.fieldAddr 70 (Operand.tmp 66) 1, 0, _, _, none⟩) (v := .pointer (some ⟨g, t * 3 + 1, none⟩)) rfl (Or.inl ⟨by rfl, fun w hS => by go_simp⟩) hHeld ?_
   refine tkS (i := 6) (oi := ⟨some 69, Op.move (Operand.tmp 6), 87, _, _, none⟩) (v := .pointer (some ⟨g, t * 3, none⟩)) rfl (Or.inl ⟨by rfl, fun w hS => by go_simp⟩) hHeld ?_
   refine tkS (i := 7) (oi := ⟨some 70, Op.nilCheck (Operand.tmp 69), 0, _, _, none⟩) (v := .pointer (some ⟨g, t * 3, none⟩)) rfl (Or.inl ⟨by rfl, fun w hS => by go_simp⟩) hHeld ?_
   refine tkS (i := 8) (oi := ⟨some 71, Op.fieldAddr 70 (Operand.tmp 70) 2, 0, _, _, none⟩) (v := .pointer (some ⟨g, t * 3 + 2, none⟩)) rfl (Or.inl ⟨by rfl, fun w hS => by go_simp⟩) hHeld ?_
   refine tkS (i := 9) (oi := ⟨some 72, Op.load 3 (Operand.tmp 71), 3, _, _, none⟩) (v := .int .i64 (m : Int)) rfl (Or.inl ⟨by rfl, fun w hS => by go_simp⟩) hHeld ?_
   refine wpAnyH_ready (rs := [1, 5]) (by kernel_rfl) (by simp) ?_
   refine AllReadyH.cons (o := ⟨some 64, Op.buildSlice 37 0 #[], 37, _, _, none⟩) rfl (fun K hK => ?_) (AllReadyH.cons (o := ⟨some 68, Op.load 37 (Operand.tmp 67), 37, _, _, none⟩) rfl (fun K hK => ?_) AllReadyH.nil)
   rw [if_pos (by rfl)]
   refine wp_bsj 37 0 _ rfl #[] (by simp) _ _ (bsBE w3) ?_
   have hbx := below_new w3 (.cells #[] 5)
   have HE4 : Keep (Own (w3.alloc (.cells #[] 5)) (.slice (some ⟨w3.heap.size, 0, none⟩) 0 0) []) := ⟨own_empty _ _ (Blk.new w3 5 #[])⟩
   have JD4 := Keep.mk (JD3.out.below hbx)
   have B4 := Keep.mk hbx
   clear hbx
   generalize w3.alloc (.cells #[] 5) = w4 at *
   obtain ⟨ge, hge⟩ : ∃ q, Keep (q = w3.heap.size) := ⟨_, ⟨rfl⟩⟩
   rw [← hge.out] at HE4 ⊢
   refine hK _ _ (own_fc JD4.out.own HX2.out).2 fun hB4 => ?_
   clear hK
   simp only [Act.put, pqA, pqB, pqC]
   refine wpAnyH_ready (rs := [5]) (by kernel_rfl) (by simp) ?_
   refine AllReadyH.cons (o := ⟨some 68, Op.load 37 (Operand.tmp 67), 37, _, _, none⟩) rfl (fun K hK => ?_) AllReadyH.nil
   rw [if_pos (by rfl)]
   have cl : w4.cell? ⟨g, t * 3 + 1, none⟩ = some (.slice xa f.bs.length xc) := (own_fc JD4.out.own HX2.out).1
   refine wp_val (.slice xa f.bs.length xc) (by go_simp) ?_
   clear cl
   refine hK _ _ (own_fc JD4.out.own HX2.out).2 fun hL4 => ?_
   clear hK
   simp only [Act.put, pqA, pqB, pqC]
   refine tkS (i := 10) (oi := ⟨some 73, Op.slice 37 (Operand.tmp 68) none (some (Operand.tmp 72)) none, 37, _, _, none⟩) (v := vs) rfl (yieldsIf_slice (by rfl) 37 (.tmp 68) (.tmp 72) rfl (.slice xa f.bs.length xc) (.int .i64 (m : Int)) vs rfl rfl HS1.out) hL4 ?_
   refine wpAnyH_ready (rs := [11]) (by kernel_rfl) (by simp) ?_
   refine AllReadyH.cons (o := ⟨some 74, Op.call { callee := Callee.builtin Builtin.append, args := #[Operand.tmp 64, Operand.tmp 73], argTypes := #[37, 37] }, 37, _, _, none⟩) rfl (fun K hK => ?_) AllReadyH.nil
   rw [if_pos (by rfl)]
   refine wp_app (.tmp 64) (.tmp 73) rfl (.slice (some ⟨ge, 0, none⟩) 0 0) vs [] (f.bs.take m) rfl rfl HE4.out (HS2.out w4 (HR3.out.below B4.out)) (by have := HB.out; simp; omega) fun v9 w9 hp => ?_
   have HV9 : Keep (Own w9 v9 (f.bs.take m)) := ⟨by have h := hp.1; rw [List.nil_append] at h; exact h⟩
   have N9 : Keep (∀ k, v9.ownBlock = some k → w3.heap.size ≤ k) := ⟨own_new hp B4.out.size fun k hk => by have e : ge = k := Option.some.inj hk; have := hge.out; omega⟩
   have B9 : Keep (Below w3.heap.size w3 w9) := ⟨B4.out.trans (hp.grown.to_below (B := w3.heap.size) (fun k hk e => by have e : ge = k := Option.some.inj e; have := hge.out; omega) B4.out.size)⟩
   have JD9 := Keep.mk (JD3.out.below B9.out)
   clear hp
   obtain ⟨a9, n9, k9, e9⟩ := HV9.out.sl
   subst e9
   refine hK _ _ (own_fc JD9.out.own HX2.out).2 fun hA9 => ?_
   clear hK
   simp only [Act.put, pqA, pqB, pqC]
   refine tkS (i := 12) (oi := ⟨some 75, Op.nilCheck (Operand.tmp 63), 0, _, _, none⟩) (v := .pointer (some ⟨g, t * 3, none⟩)) rfl (Or.inl ⟨by rfl, fun w hS => by go_simp⟩) hA9 ?_
   refine tkS (i := 13) (oi := ⟨some 76, Op.fieldAddr 70 (Operand.tmp 75) 1, 0, _, _, none⟩) (v := .pointer (some ⟨g, t * 3 + 1, none⟩)) rfl (Or.inl ⟨by rfl, fun w hS => by go_simp⟩) hA9 ?_
   refine wpAnyH_ready (rs := [14]) (by kernel_rfl) (by simp) ?_
   refine AllReadyH.cons (o := ⟨none, Op.store 37 (Operand.tmp 76) (Operand.tmp 74), 0, _, _, none⟩) rfl (fun K hK => ?_) AllReadyH.nil
   rw [if_pos (by rfl)]
   have f_o : w9.frozen? ⟨g, t * 3 + 1, none⟩ = false := ownF_frozen JD9.out.own _
   have cl := (own_fc JD9.out.own HX2.out).1
   refine wp_cellS (w9.setCell ⟨g, t * 3 + 1, none⟩ (.slice a9 n9 k9)) (by go_simp) ?_
   clear f_o cl
   have JD10 : Keep (DskAt (w9.setCell ⟨g, t * 3 + 1, none⟩ (.slice a9 n9 k9)) p (.slice (some ⟨g, 0, none⟩) cs.length vc) (c2.set t (⟨xn, .slice a9 n9 k9, (m : Int)⟩ : FC)) { D2 with fs := D2.fs.set t ({ nm := f.nm, bs := f.bs.take m, sf := (m : Int) } : PF) }) := ⟨dsk_newb JD3.out HX2.out HF3.out B9.out HV9.out N9.out⟩
   have HX10 : Keep ((c2.set t (⟨xn, .slice a9 n9 k9, (m : Int)⟩ : FC))[t]? = some (⟨xn, .slice a9 n9 k9, (m : Int)⟩ : FC)) := ⟨List.getElem?_set_self (List.getElem?_eq_some_iff.1 HX2.out).1⟩
   have G10 : Keep (Grown w (w9.setCell ⟨g, t * 3 + 1, none⟩ (.slice a9 n9 k9)) (fun k => k = p ∨ (Value.slice (some ⟨g, 0, none⟩) cs.length vc).ownBlock = some k)) := ⟨(G3.out.trans (Grown.below B9.out)).trans (Grown.setCell w9 g _ _ fun _ => .inr rfl)⟩
   have N10 : Keep (∀ k, (Value.slice a9 n9 k9).ownBlock = some k → w.heap.size ≤ k) := ⟨fun k hk => Nat.le_trans G3.out.size (N9.out k hk)⟩
   clear JD9 JD3 G3 B9 HV9 N9 JD4 HE4 B4 HS1 HS2 HR3
   generalize (w9.setCell ⟨g, t * 3 + 1, none⟩ (.slice a9 n9 k9)) = w10 at *
   refine hK _ _ (own_fc JD10.out.own HX10.out).2 fun hS10 => ?_
   clear hK
   simp only [Act.put, pqA, pqB, pqC]
   refine wpAnyH_done (by kernel_rfl) ?_ _
   rotate_left
   rw [if_pos (by rfl)]
   have cl : w3.cell? ⟨g, t * 3 + 1, none⟩ = some (.slice xa f.bs.length xc) := (own_fc JD3.out.own HX2.out).1
   refine wp_val (.slice xa f.bs.length xc) (by go_simp) ?_
   clear cl
   refine hK _ _ (own_fc JD3.out.own HX2.out).2 fun hL3 => ?_
   clear hK
   simp only [Act.put, pqA, pqB, pqC]
   refine tkS (i := 10) (oi := ⟨some 73, Op.slice 37 (Operand.tmp 68) none (some (Operand.tmp 72)) none, 37, _, _, none⟩) (v := vs) rfl (yieldsIf_slice (by rfl) 37 (.tmp 68) (.tmp 72) rfl (.slice xa f.bs.length xc) (.int .i64 (m : Int)) vs rfl rfl HS1.out) hL3 ?_
   refine wpAnyH_ready (rs := [1]) (by kernel_rfl) (by simp) ?_
   refine AllReadyH.cons (o := ⟨some 64, Op.buildSlice 37 0 #[], 37, _, _, none⟩) rfl (fun K hK => ?_) AllReadyH.nil
   rw [if_pos (by rfl)]
   refine wp_bsj 37 0 _ rfl #[] (by simp) _ _ (bsBE w3) ?_
   have hbx := below_new w3 (.cells #[] 5)
   have HE4 : Keep (Own (w3.alloc (.cells #[] 5)) (.slice (some ⟨w3.heap.size, 0, none⟩) 0 0) []) := ⟨own_empty _ _ (Blk.new w3 5 #[])⟩
   have JD4 := Keep.mk (JD3.out.below hbx)
   have B4 := Keep.mk hbx
   clear hbx
   generalize w3.alloc (.cells #[] 5) = w4 at *
   obtain ⟨ge, hge⟩ : ∃ q, Keep (q = w3.heap.size) := ⟨_, ⟨rfl⟩⟩
   rw [← hge.out] at HE4 ⊢
   refine hK _ _ (own_fc JD4.out.own HX2.out).2 fun hB4 => ?_
   clear hK
   simp only [Act.put, pqA, pqB, pqC]
   refine wpAnyH_ready (rs := [11]) (by kernel_rfl) (by simp) ?_
   refine AllReadyH.cons (o := ⟨some 74, Op.call { callee := Callee.builtin Builtin.append, args := #[Operand.tmp 64, Operand.tmp 73], argTypes := #[37, 37] }, 37, _, _, none⟩) rfl (fun K hK => ?_) AllReadyH.nil
   rw [if_pos (by rfl)]
   refine wp_app (.tmp 64) (.tmp 73) rfl (.slice (some ⟨ge, 0, none⟩) 0 0) vs [] (f.bs.take m) rfl rfl HE4.out (HS2.out w4 (HR3.out.below B4.out)) (by have := HB.out; simp; omega) fun v9 w9 hp => ?_
   have HV9 : Keep (Own w9 v9 (f.bs.take m)) := ⟨by have h := hp.1; rw [List.nil_append] at h; exact h⟩
   have N9 : Keep (∀ k, v9.ownBlock = some k → w3.heap.size ≤ k) := ⟨own_new hp B4.out.size fun k hk => by have e : ge = k := Option.some.inj hk; have := hge.out; omega⟩
   have B9 : Keep (Below w3.heap.size w3 w9) := ⟨B4.out.trans (hp.grown.to_below (B := w3.heap.size) (fun k hk e => by have e : ge = k := Option.some.inj e; have := hge.out; omega) B4.out.size)⟩
   have JD9 := Keep.mk (JD3.out.below B9.out)
   clear hp
   obtain ⟨a9, n9, k9, e9⟩ := HV9.out.sl
   subst e9
   refine hK _ _ (own_fc JD9.out.own HX2.out).2 fun hA9 => ?_
   clear hK
   simp only [Act.put, pqA, pqB, pqC]
   refine tkS (i := 12) (oi := ⟨some 75, Op.nilCheck (Operand.tmp 63), 0, _, _, none⟩) (v := .pointer (some ⟨g, t * 3, none⟩)) rfl (Or.inl ⟨by rfl, fun w hS => by go_simp⟩) hA9 ?_
   refine tkS (i := 13) (oi := ⟨some 76, Op.fieldAddr 70 (Operand.tmp 75) 1, 0, _, _, none⟩) (v := .pointer (some ⟨g, t * 3 + 1, none⟩)) rfl (Or.inl ⟨by rfl, fun w hS => by go_simp⟩) hA9 ?_
   refine wpAnyH_ready (rs := [14]) (by kernel_rfl) (by simp) ?_
   refine AllReadyH.cons (o := ⟨none, Op.store 37 (Operand.tmp 76) (Operand.tmp 74), 0, _, _, none⟩) rfl (fun K hK => ?_) AllReadyH.nil
   rw [if_pos (by rfl)]
   have f_o : w9.frozen? ⟨g, t * 3 + 1, none⟩ = false := ownF_frozen JD9.out.own _
   have cl := (own_fc JD9.out.own HX2.out).1
   refine wp_cellS (w9.setCell ⟨g, t * 3 + 1, none⟩ (.slice a9 n9 k9)) (by go_simp) ?_
   clear f_o cl
   have JD10 : Keep (DskAt (w9.setCell ⟨g, t * 3 + 1, none⟩ (.slice a9 n9 k9)) p (.slice (some ⟨g, 0, none⟩) cs.length vc) (c2.set t (⟨xn, .slice a9 n9 k9, (m : Int)⟩ : FC)) { D2 with fs := D2.fs.set t ({ nm := f.nm, bs := f.bs.take m, sf := (m : Int) } : PF) }) := ⟨dsk_newb JD3.out HX2.out HF3.out B9.out HV9.out N9.out⟩
   have HX10 : Keep ((c2.set t (⟨xn, .slice a9 n9 k9, (m : Int)⟩ : FC))[t]? = some (⟨xn, .slice a9 n9 k9, (m : Int)⟩ : FC)) := ⟨List.getElem?_set_self (List.getElem?_eq_some_iff.1 HX2.out).1⟩
   have G10 : Keep (Grown w (w9.setCell ⟨g, t * 3 + 1, none⟩ (.slice a9 n9 k9)) (fun k => k = p ∨ (Value.slice (some ⟨g, 0, none⟩) cs.length vc).ownBlock = some k)) := ⟨(G3.out.trans (Grown.below B9.out)).trans (Grown.setCell w9 g _ _ fun _ => .inr rfl)⟩
   have N10 : Keep (∀ k, (Value.slice a9 n9 k9).ownBlock = some k → w.heap.size ≤ k) := ⟨fun k hk => Nat.le_trans G3.out.size (N9.out k hk)⟩
   clear JD9 JD3 G3 B9 HV9 N9 JD4 HE4 B4 HS1 HS2 HR3
   generalize (w9.setCell ⟨g, t * 3 + 1, none⟩ (.slice a9 n9 k9)) = w10 at *
   refine hK _ _ (own_fc JD10.out.own HX10.out).2 fun hS10 => ?_
   clear hK
   simp only [Act.put, pqA, pqB, pqC]
   refine wpAnyH_done (by kernel_rfl) ?_ _
   rotate_left
   all_goals
    refine hK18 _ _ ?_
    have JD11 : Keep (DskAt w10.drew p (.slice (some ⟨g, 0, none⟩) cs.length vc) (c2.set t (⟨xn, .slice a9 n9 k9, (m : Int)⟩ : FC)) { D2 with fs := D2.fs.set t ({ nm := f.nm, bs := f.bs.take m, sf := (m : Int) } : PF) }) := ⟨JD10.out.grown (Grown.refl w10 (fun _ => False)).drew fun _ _ h => h⟩
    have G11 : Keep (Grown w w10.drew (fun k => k = p ∨ (Value.slice (some ⟨g, 0, none⟩) cs.length vc).ownBlock = some k)) := ⟨G10.out.drew⟩
    have hgp : Keep (g ≠ p) := ⟨fun e => JD11.out.own.ne JD11.out.blk (by decide) (by rw [e]; rfl)⟩
    have hwu : IntKind.i64.wrap (D2.used + (m : Int)) = D2.used + (m : Int) := by rw [IntKind.wrap_i64]; have := HUt.out; have := HU3.out; have := HM.out; have := HB.out; omega
    clear JD10 G10
    refine wp_region_held_drew (S := fun wx => wx.cell? ⟨g, t * 3 + 2, none⟩ = some (.int .i64 (m : Int))) (by kernel_rfl) (own_fc JD11.out.own HX10.out).2 (fun hHeld => ?_)
    generalize w10.drew = w11 at *
    refine tkS (i := 0) (oi := ⟨some 77, Op.move (Operand.tmp 4), 71, _, _, none⟩) (v := .pointer (some ⟨p, 0, none⟩)) rfl (Or.inl ⟨by rfl, fun w hS => by go_simp⟩) hHeld ?_
    refine tkS (i := 1) (oi := ⟨some 78, Op.nilCheck (Operand.tmp 77), 0, _, _, none⟩) (v := .pointer (some ⟨p, 0, none⟩)) rfl (Or.inl ⟨by rfl, fun w hS => by go_simp⟩) hHeld ?_
    refine tkS (i := 2) (oi := ⟨some 79, Op.fieldAddr 73 (Operand.tmp 78) 2, 0, _, _, none⟩) (v := .pointer (some ⟨p, 2, none⟩)) rfl (Or.inl ⟨by rfl, fun w hS => by go_simp⟩) hHeld ?_
    refine tkS (i := 4) (oi := ⟨some 81, Op.move (Operand.tmp 6), 87, _, _, none⟩) (v := .pointer (some ⟨g, t * 3, none⟩)) rfl (Or.inl ⟨by rfl, fun w hS => by go_simp⟩) hHeld ?_
    refine tkS (i := 5) (oi := ⟨some 82, Op.nilCheck (Operand.tmp 81), 0, _, _, none⟩) (v := .pointer (some ⟨g, t * 3, none⟩)) rfl (Or.inl ⟨by rfl, fun w hS => by go_simp⟩) hHeld ?_
    refine tkS (i := 6) (oi := ⟨some 83, Op.fieldAddr 70 (Operand.tmp 82) 2, 0, _, _, none⟩) (v := .pointer (some ⟨g, t * 3 + 2, none⟩)) rfl (Or.inl ⟨by rfl, fun w hS => by go_simp⟩) hHeld ?_
    refine tkS (i := 7) (oi := ⟨some 84, Op.load 3 (Operand.tmp 83), 3, _, _, none⟩) (v := .int .i64 (m : Int)) rfl (Or.inl ⟨by rfl, fun w hS => by go_simp⟩) hHeld ?_
    refine wpAnyH_ready (rs := [3]) (by kernel_rfl) (by simp) ?_
    refine AllReadyH.cons (o := ⟨some 80, Op.load 3 (Operand.tmp 79), 3, _, _, none⟩) rfl (fun K hK => ?_) AllReadyH.nil
    rw [if_pos (by rfl)]
    have cl : w11.cell? ⟨p, 2, none⟩ = some (.int .i64 D2.used) := JD11.out.blk.c 2 rfl
    refine wp_val (.int .i64 D2.used) (by go_simp) ?_
    clear cl
    refine hK _ _ (own_fc JD11.out.own HX10.out).2 fun hH1 => ?_
    clear hK
    simp only [Act.put, pqA, pqB, pqC]
    refine tkS (i := 8) (oi := ⟨some 85, Op.binOp BinOp.add 3 (Operand.tmp 80) (Operand.tmp 84) 3, 3, _, _, none⟩) (v := .int .i64 (D2.used + (m : Int))) rfl (Or.inl ⟨by rfl, fun w hS => by go_simp⟩) hH1 ?_
    refine tkS (i := 9) (oi := ⟨some 86, Op.nilCheck (Operand.tmp 77), 0, _, _, none⟩) (v := .pointer (some ⟨p, 0, none⟩)) rfl (Or.inl ⟨by rfl, fun w hS => by go_simp⟩) hH1 ?_
    refine tkS (i := 10) (oi := ⟨some 87, Op.fieldAddr 73 (Operand.tmp 86) 2, 0, _, _, none⟩) (v := .pointer (some ⟨p, 2, none⟩)) rfl (Or.inl ⟨by rfl, fun w hS => by go_simp⟩) hH1 ?_
    refine wpAnyH_ready (rs := [11]) (by kernel_rfl) (by simp) ?_
    refine AllReadyH.cons (o := ⟨none, Op.store 3 (Operand.tmp 87) (Operand.tmp 85), 0, _, _, none⟩) rfl (fun K hK => ?_) AllReadyH.nil
    rw [if_pos (by rfl)]
    have f_o := JD11.out.blk.frozen 2
    have cl : w11.cell? ⟨p, 2, none⟩ = some (.int .i64 D2.used) := JD11.out.blk.c 2 rfl
    refine wp_cellS (w11.setCell ⟨p, 2, none⟩ (.int .i64 (D2.used + (m : Int)))) (by go_simp) ?_
    clear f_o cl
    have JD12 : Keep (DskAt (w11.setCell ⟨p, 2, none⟩ (.int .i64 (D2.used + (m : Int)))) p (.slice (some ⟨g, 0, none⟩) cs.length vc) (c2.set t (⟨xn, .slice a9 n9 k9, (m : Int)⟩ : FC)) { D2 with fs := D2.fs.set t ({ nm := f.nm, bs := f.bs.take m, sf := (m : Int) } : PF), used := D2.used + (m : Int) }) := ⟨JD11.out.put rfl rfl⟩
    have G12 : Keep (Grown w (w11.setCell ⟨p, 2, none⟩ (.int .i64 (D2.used + (m : Int)))) (fun k => k = p ∨ (Value.slice (some ⟨g, 0, none⟩) cs.length vc).ownBlock = some k)) := ⟨G11.out.trans (Grown.setCell w11 p 2 _ fun _ => .inl rfl)⟩
    clear JD11 G11 hwu
    generalize (w11.setCell ⟨p, 2, none⟩ (.int .i64 (D2.used + (m : Int)))) = w12 at *
    refine hK _ _ (own_fc JD12.out.own HX10.out).2 fun hS12 => ?_
    clear hK
    simp only [Act.put, pqA, pqB, pqC]
    refine wpAnyH_done (by kernel_rfl) ?_ _
    refine hK7 _ _ ?_
    refine rgn ?_
    refine VlS (.int .i64 ((t : Int) + 1)) ?_
    refine VlS (.int .i64 ((t : Int) + 1)) ?_
    refine WL.nil ?_
    refine ⟨⟨t + 1, fun zz => [.pointer (some ⟨h, 0, none⟩), .slice ka kp.length kc, undef, undef, .pointer (some ⟨p, 0, none⟩), .int .i64 (t : Int), .pointer (some ⟨g, t * 3, none⟩), .int .i64 nn, fz 8, .pointer (some ⟨h, 0, none⟩), .pointer (some ⟨h, 0, none⟩), .pointer (some ⟨h, 0, none⟩), .pointer (some ⟨p, 0, none⟩), .pointer (some ⟨p, 0, none⟩), .pointer (some ⟨p, 0, none⟩), .pointer (some ⟨p, 2, none⟩), .pointer (some ⟨p, 0, none⟩), .pointer (some ⟨p, 0, none⟩), .pointer (some ⟨p, 0, none⟩), .slice (some ⟨g, 0, none⟩) cs.length vc, .int .i64 (cs.length : Int), .int .i64 ((t : Int) + 1), .bool true, .int .i64 (t : Int), .pointer (some ⟨p, 0, none⟩), .pointer (some ⟨p, 0, none⟩), .pointer (some ⟨p, 0, none⟩), .slice (some ⟨g, 0, none⟩) cs.length vc, .int .i64 (t : Int), .pointer (some ⟨g, t * 3, none⟩), .int .i64 (t : Int), .slice ka kp.length kc, .int .i64 (kp.length : Int), .bool false, fz 34, fz 35, fz 36, fz 37, fz 38, fz 39, fz 40, fz 41, fz 42, fz 43, fz 44, fz 45, fz 46, fz 47, fz 48, fz 49, fz 50, fz 51, fz 52, fz 53, fz 54, .pointer (some ⟨g, t * 3, none⟩), .pointer (some ⟨g, t * 3, none⟩), .pointer (some ⟨g, t * 3 + 2, none⟩), .int .i64 xs, .int .i64 nn, .int .i64 (m : Int), .pointer (some ⟨g, t * 3, none⟩), .pointer (some ⟨g, t * 3 + 2, none⟩), .pointer (some ⟨g, t * 3, none⟩), .slice (some ⟨ge, 0, none⟩) 0 0, .pointer (some ⟨g, t * 3, none⟩), .pointer (some ⟨g, t * 3, none⟩), .pointer (some ⟨g, t * 3 + 1, none⟩), .slice xa f.bs.length xc, .pointer (some ⟨g, t * 3, none⟩), .pointer (some ⟨g, t * 3, none⟩), .pointer (some ⟨g, t * 3 + 2, none⟩), .int .i64 (m : Int), vs, .slice a9 n9 k9, .pointer (some ⟨g, t * 3, none⟩), .pointer (some ⟨g, t * 3 + 1, none⟩), .pointer (some ⟨p, 0, none⟩), .pointer (some ⟨p, 0, none⟩), .pointer (some ⟨p, 2, none⟩), .int .i64 D2.used, .pointer (some ⟨g, t * 3, none⟩), .pointer (some ⟨g, t * 3, none⟩), .pointer (some ⟨g, t * 3 + 2, none⟩), .int .i64 (m : Int), .int .i64 (D2.used + (m : Int)), .pointer (some ⟨p, 0, none⟩), .pointer (some ⟨p, 2, none⟩), .int .i64 ((t : Int) + 1), undef, undef, undef, undef, undef, undef].getD zz undef, c2.set t (⟨xn, .slice a9 n9 k9, (m : Int)⟩ : FC), _, rfl, by omega, by rw [hc2.out, List.length_set, List.length_set]; exact JC.out, JD12.out, ?_, G12.out, ?_⟩, ?_⟩
    ·have hcr : f.crash (kpN kp t f) = ({ nm := f.nm, bs := f.bs.take m, sf := (m : Int) } : PF) := by
      have e : f.sf + kpN kp t f = (m : Int) := by rw [← HXs.out, ← HN.out]; exact hm.out.symm
      unfold PF.crash
      rw [e, Int.toNat_natCast]
     have hLt : t < (crT kp t D.fs).length := by rw [crT_len]; exact hLD
     rw [crT_step kp t D.fs f HFd.out, hcr, usd_step _ _ _ hLt]
     have e1 : D2.fs.set t ({ nm := f.nm, bs := f.bs.take m, sf := (m : Int) } : PF) = (crT kp t D.fs).set t ({ nm := f.nm, bs := f.bs.take m, sf := (m : Int) } : PF) := by rw [hD2.out, JE.out]; exact List.set_set ..
     have e2 : D2.used = usd ((crT kp t D.fs).take t) := by rw [HU3.out, JE.out]
     have e3 : ((f.bs.take m).length : Int) = (m : Int) := by rw [List.length_take]; have := HM.out; omega
     rw [e1, e2]
     show _ = _
     rw [hD2.out, JE.out]
     simp only [e3]
    ·intro k hk
     have h1 := dskS_newb (B := w.heap.size) HX2.out N10.out k hk
     rcases h1 with h1 | h1
     ·rw [hc2.out] at h1
      exact JS.out k (dskS_sync (x := (⟨xn, .slice xa f.bs.length xc, xs⟩ : FC)) HX.out h1)
     ·exact .inr h1
    ·simp only [intOf]; show cs.length - ((t : Int) + 1).toNat < cs.length - ((t : Int)).toNat; omega
 ·have hlt' : ¬ (t : Int) < (cs.length : Int) := by omega
  have hte : Keep (t = D.fs.length) := ⟨by have := HD.out.fcs.len; omega⟩
  refine wp_seq_k fun K20 hK20 => rgn ?_
  refine VlS (.bool false) ?_
  refine WL.nil (hK20 _ _ ?_)
  refine wp_seq_k fun K21 hK21 => ?_
  refine wp_cond_false rfl ?_
  refine wp_exit ?_
  refine hK3 _ _ ?_
  refine wp_seq_k fun K22 hK22 => rgn ?_
  refine VlS (.pointer (some ⟨p, 0, none⟩)) ?_
  refine VlS (.pointer (some ⟨p, 0, none⟩)) ?_
  refine VlS (.pointer (some ⟨p, 4, none⟩)) ?_
  have cl := JD.out.blk.c 4 (by rfl : (stA (.slice va cs.length vc) Dt)[4]? = some (.bool Dt.out))
  have f_o := JD.out.blk.frozen 4
  refine WL.cell (by kernel_rfl) (wr.setCell ⟨p, 4, none⟩ (.bool false)) (by go_simp) ?_
  have JD2 : Keep (DskAt (wr.setCell ⟨p, 4, none⟩ (.bool false)) p (.slice va cs.length vc) ct { Dt with out := false }) := ⟨JD.out.put rfl rfl⟩
  have G2 : Keep (Grown w (wr.setCell ⟨p, 4, none⟩ (.bool false)) (fun k => k = p ∨ (Value.slice va cs.length vc).ownBlock = some k)) := ⟨JG.out.trans (Grown.setCell wr p 4 _ fun _ => .inl rfl)⟩
  clear cl f_o
  generalize wr.setCell ⟨p, 4, none⟩ (.bool false) = w2 at *
  simp only [Act.put]
  refine WL.nil (hK22 _ _ ?_)
  refine rgn ?_
  refine VlS (.pointer (some ⟨p, 0, none⟩)) ?_
  refine VlS (.pointer (some ⟨p, 0, none⟩)) ?_
  refine VlS (.pointer (some ⟨p, 3, none⟩)) ?_
  have cl := JD2.out.blk.c 3 (by rfl : (stA (.slice va cs.length vc) { Dt with out := false })[3]? = some (.int .i64 Dt.fuse))
  have f_o := JD2.out.blk.frozen 3
  refine WL.cell (by kernel_rfl) (w2.setCell ⟨p, 3, none⟩ (.int .i64 (-1))) (by go_simp) ?_
  have JD3 : Keep (DskAt (w2.setCell ⟨p, 3, none⟩ (.int .i64 (-1))) p (.slice va cs.length vc) ct { Dt with out := false, fuse := -1 }) := ⟨JD2.out.put rfl rfl⟩
  have G3 : Keep (Grown w (w2.setCell ⟨p, 3, none⟩ (.int .i64 (-1))) (fun k => k = p ∨ (Value.slice va cs.length vc).ownBlock = some k)) := ⟨G2.out.trans (Grown.setCell w2 p 3 _ fun _ => .inl rfl)⟩
  clear cl f_o
  generalize w2.setCell ⟨p, 3, none⟩ (.int .i64 (-1)) = w3 at *
  simp only [Act.put]
  refine WL.nil ?_
  go_end0
  refine ⟨rfl, ct, ?_, G3.out, JS.out⟩
  have h := JD3.out
  rw [JE.out] at h
  rw [hte.out] at h
  rw [List.take_of_length_le (by rw [crT_len]; exact Nat.le_refl _)] at h
  exact h
end Go.Proofs.YtennogmeeefopaaDoor
