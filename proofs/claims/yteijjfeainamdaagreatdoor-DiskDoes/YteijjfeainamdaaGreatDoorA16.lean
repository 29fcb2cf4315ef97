import Derived.Test.YteijjfeainamdaaGreatDoorA06
import Derived.Test.YteijjfeainamdaaGreatDoorA15
import Derived.Deep.RegionHeld3
import Derived.Lib.Small
namespace Go.Proofs.YteijjfeainamdaaGreatDoor
open Go.RowKit
set_option linter.unusedSimpArgs false
set_option linter.unusedVariables false

set_option maxRecDepth 8000 in
set_option maxHeartbeats 4000000 in
theorem crash_any (h p : Nat) (vk vf : Value) (kp : List Int) (cs : List FC) (D : DV) (w : World) (hH : Blk w h 73 #[ptr p]) (hD : DskAt w p vf cs D) (hKp : IntsAt w vk kp) (hKn : kp ≠ [] → ∀ k, vk.ownBlock = some k → k ≠ p ∧ vf.ownBlock ≠ some k) (hL : cs.length ≤ 1000000) (hS : ∀ f ∈ D.fs, 0 ≤ f.sf ∧ f.sf ≤ (f.bs.length : Int) ∧ f.bs.length ≤ 70368744177664) (hU : usd D.fs ≤ 70368744177664) :
  Calls Tryz.prog 42 #[ptr h, vk] w fun e w' => e = .returned (.tuple #[]) ∧ ∃ cs', DskAt w' p vf cs' (D.crash kp) ∧ (Grown w w' fun k => k = p ∨ vf.ownBlock = some k) ∧ ∀ k, DskS p vf cs' k → DskS p vf cs k ∨ w.heap.size ≤ k := by
 obtain ⟨va, vc, rfl⟩ := hD.own.sl
 obtain ⟨ka, kc, rfl⟩ := hKp.form
 have HH := Keep.mk hH
 have HD := Keep.mk hD
 have HKp := Keep.mk hKp
 have HKn := Keep.mk hKn
 have HL := Keep.mk hL
 have HS := Keep.mk hS
 have HU := Keep.mk hU
 clear hH hD hKp hKn hL hS hU
 go_enter Tryz.func42, Tryz.ntmps42
 have c0 := HH.out.c 0 (by rfl : (#[ptr p] : Array Value)[0]? = some (ptr p))
 refine wp_seq_k fun K1 hK1 => rgn ?_
 refine VlS (.pointer (some ⟨h, 0, none⟩)) ?_
 refine VlS (.pointer (some ⟨h, 0, none⟩)) ?_
 refine VlS (.pointer (some ⟨h, 0, none⟩)) ?_
 refine VlS (.pointer (some ⟨p, 0, none⟩)) ?_
 refine VlS (.pointer (some ⟨p, 0, none⟩)) ?_
 refine WL.nil (hK1 _ _ ?_)
 refine wp_seq_k fun K2 hK2 => rgn ?_
 refine VlS (.pointer (some ⟨p, 0, none⟩)) ?_
 refine VlS (.pointer (some ⟨p, 0, none⟩)) ?_
 refine VlS (.pointer (some ⟨p, 2, none⟩)) ?_
 have cl := HD.out.blk.c 2 (by rfl : (stA (.slice va cs.length vc) D)[2]? = some (.int .i64 D.used))
 have f_o := HD.out.blk.frozen 2
 refine WL.cell (by kernel_rfl) (w.setCell ⟨p, 2, none⟩ (.int .i64 0)) (by go_simp) ?_
 have HD1 : Keep (DskAt (w.setCell ⟨p, 2, none⟩ (.int .i64 0)) p (.slice va cs.length vc) cs { D with used := 0 }) := ⟨HD.out.put rfl rfl⟩
 have G1 : Keep (Grown w (w.setCell ⟨p, 2, none⟩ (.int .i64 0)) fun k => k = p ∨ (Value.slice va cs.length vc).ownBlock = some k) := ⟨Grown.setCell w p 2 _ fun _ => .inl rfl⟩
 clear c0 cl f_o
 generalize w.setCell ⟨p, 2, none⟩ (.int .i64 0) = w1 at *
 have p0 := HD1.out.blk.c 0 (by rfl : (stA (.slice va cs.length vc) { D with used := 0 })[0]? = some (.slice va cs.length vc))
 simp only [Act.put]
 refine WL.nil (hK2 _ _ ?_)
 refine wp_seq_k fun K3 hK3 => ?_
 refine wp_seq_k fun K4 hK4 => rgn ?_
 refine VlS (.pointer (some ⟨p, 0, none⟩)) ?_
 refine VlS (.pointer (some ⟨p, 0, none⟩)) ?_
 refine VlS (.pointer (some ⟨p, 0, none⟩)) ?_
 refine VlS (.slice va cs.length vc) ?_
 refine VlS (.int .i64 (cs.length : Int)) ?_
 refine VlS (.int .i64 0) ?_
 refine WL.nil (hK4 _ _ ?_)
 refine wp_block ?_
 refine wp_loop (fun ac wr => ∃ (t : Nat) (ct : List FC) (Dt : DV), ac = apF (fun fz => { tmps := #[.pointer (some ⟨h, 0, none⟩), .slice ka kp.length kc, undef, undef, .pointer (some ⟨p, 0, none⟩), fz 5, fz 6, fz 7, fz 8, .pointer (some ⟨h, 0, none⟩), .pointer (some ⟨h, 0, none⟩), .pointer (some ⟨h, 0, none⟩), .pointer (some ⟨p, 0, none⟩), .pointer (some ⟨p, 0, none⟩), .pointer (some ⟨p, 0, none⟩), .pointer (some ⟨p, 2, none⟩), .pointer (some ⟨p, 0, none⟩), .pointer (some ⟨p, 0, none⟩), .pointer (some ⟨p, 0, none⟩), .slice va cs.length vc, .int .i64 (cs.length : Int), .int .i64 (t : Int), fz 22, fz 23, fz 24, fz 25, fz 26, fz 27, fz 28, fz 29, fz 30, fz 31, fz 32, fz 33, fz 34, fz 35, fz 36, fz 37, fz 38, fz 39, fz 40, fz 41, fz 42, fz 43, fz 44, fz 45, fz 46, fz 47, fz 48, fz 49, fz 50, fz 51, fz 52, fz 53, fz 54, fz 55, fz 56, fz 57, fz 58, fz 59, fz 60, fz 61, fz 62, fz 63, fz 64, fz 65, fz 66, fz 67, fz 68, fz 69, fz 70, fz 71, fz 72, fz 73, fz 74, fz 75, fz 76, fz 77, fz 78, fz 79, fz 80, fz 81, fz 82, fz 83, fz 84, fz 85, fz 86, fz 87, fz 88, undef, undef, undef, undef, undef, undef], defers := [] }) ac ∧ t ≤ cs.length ∧ ct.length = cs.length ∧ DskAt wr p (.slice va cs.length vc) ct Dt ∧ Dt = { D with fs := crT kp t D.fs, used := usd ((crT kp t D.fs).take t) } ∧ Grown w wr (fun k => k = p ∨ (Value.slice va cs.length vc).ownBlock = some k) ∧ ∀ k, DskS p (.slice va cs.length vc) ct k → DskS p (.slice va cs.length vc) cs k ∨ w.heap.size ≤ k) (fun a _ => cs.length - (intOf (a.tmps.getD 21 undef)).toNat) ⟨0, cs, _, rfl, Nat.zero_le _, rfl, HD1.out, by rw [crT_zero]; rfl, G1.out, fun k h => .inl h⟩ ?_
 clear p0 HD1 G1
 rintro ac wr ⟨t, ct, Dt, hac, ht, hct, hJ1, hJ2, hJ3, hJ4⟩
 obtain ⟨fz, rfl⟩ := unF hac
 have JD := Keep.mk hJ1
 have JE := Keep.mk hJ2
 have JG := Keep.mk hJ3
 have JS := Keep.mk hJ4
 have JC := Keep.mk hct
 clear hJ1 hJ2 hJ3 hJ4 hct
 by_cases hlt : t < cs.length
 ·have hlt' : (t : Int) < (cs.length : Int) := by omega
  have hwt : IntKind.i64.wrap ((t : Int) + 1) = (t : Int) + 1 := by rw [IntKind.wrap_i64]; have := HL.out; omega
  have hLD : t < D.fs.length := by have := HD.out.fcs.len; omega
  obtain ⟨f, hf⟩ : ∃ f, D.fs[t]? = some f := ⟨D.fs[t]'hLD, List.getElem?_eq_getElem _⟩
  have HFd := Keep.mk hf
  have HFt : Keep (Dt.fs[t]? = some f) := ⟨by rw [JE.out]; show (crT kp t D.fs)[t]? = some f; rw [crT_at]; exact hf⟩
  obtain ⟨x, hx⟩ : ∃ x, ct[t]? = some x := ⟨ct[t]'(by have := JC.out; omega), List.getElem?_eq_getElem _⟩
  obtain ⟨g, ha, hrg⟩ := JD.out.own.at hx
  subst ha
  have hec := JD.out.fcs.each t x f hx HFt.out
  have hbf := HS.out f (List.mem_of_getElem? hf)
  obtain ⟨xn, xb, xs⟩ := x
  obtain ⟨xa, xc, hxb⟩ := row_form hec.2.2.row
  change xb = _ at hxb
  subst hxb
  have HX := Keep.mk hx
  have HXs : Keep (xs = f.sf) := ⟨hec.2.1⟩
  have HB : Keep (0 ≤ xs ∧ xs ≤ (f.bs.length : Int) ∧ f.bs.length ≤ 70368744177664) := ⟨by rw [HXs.out]; exact hbf⟩
  have HUt : Keep (0 ≤ Dt.used ∧ Dt.used ≤ 70368744177664) := ⟨by
   rw [JE.out]
   show 0 ≤ usd ((crT kp t D.fs).take t) ∧ usd ((crT kp t D.fs).take t) ≤ 70368744177664
   have h1 := usd_crT kp D.fs (fun f hf => ⟨(HS.out f hf).1, (HS.out f hf).2.1⟩) t (by omega)
   have h2 := usd_take D.fs t
   have h3 := usd_nonneg ((crT kp t D.fs).take t)
   have h4 := HU.out
   omega⟩
  clear hrg hec hx hf hbf
  have p0 := JD.out.blk.c 0 (by rfl : (stA (.slice (some ⟨g, 0, none⟩) cs.length vc) Dt)[0]? = some (.slice (some ⟨g, 0, none⟩) cs.length vc))
  refine wp_seq_k fun K5 hK5 => rgn ?_
  refine VbT ?_
  refine WL.nil (hK5 _ _ ?_)
  refine wp_seq_k fun K6 hK6 => ?_
  refine wp_cond_true rfl ?_
  refine wp_skip ?_
  refine hK6 _ _ ?_
  refine wp_seq_k fun K7 hK7 => ?_
  refine wp_block ?_
  refine wp_seq_k fun K8 hK8 => rgn ?_
  refine VlS (.int .i64 (t : Int)) ?_
  refine VlS (.int .i64 (t : Int)) ?_
  refine WL.nil (hK8 _ _ ?_)
  refine wp_seq_k fun K9 hK9 => rgn ?_
  refine VlS (.pointer (some ⟨p, 0, none⟩)) ?_
  refine VlS (.pointer (some ⟨p, 0, none⟩)) ?_
  refine VlS (.pointer (some ⟨p, 0, none⟩)) ?_
  refine VlS (.slice (some ⟨g, 0, none⟩) cs.length vc) ?_
  refine VlS (.int .i64 (t : Int)) ?_
  refine VlS (.pointer (some ⟨g, t * 3, none⟩)) ?_
  refine VlS (.pointer (some ⟨g, t * 3, none⟩)) ?_
  refine WL.nil (hK9 _ _ ?_)
  refine wp_seq_k fun K10 hK10 => rgn ?_
  refine VlS (.int .i64 0) ?_
  refine WL.nil (hK10 _ _ ?_)
  refine wp_seq_k fun K11 hK11 => ?_
  refine wp_seq_k fun K12 hK12 => ?_
  have rest10 : ∀ (y8 y30 y31 y32 y33 y34 y35 y36 y37 y38 y39 y40 y41 y42 y43 y44 y45 y46 y47 y48 y49 y50 y51 y52 y53 y54 : Value) (nn : Int) (wX : World), nn = kpN kp t f → DskAt wX p (.slice (some ⟨g, 0, none⟩) cs.length vc) ct Dt → Grown w wX (fun k => k = p ∨ (Value.slice (some ⟨g, 0, none⟩) cs.length vc).ownBlock = some k) → K11 { tmps := #[.pointer (some ⟨h, 0, none⟩), .slice ka kp.length kc, undef, undef, .pointer (some ⟨p, 0, none⟩), .int .i64 (t : Int), .pointer (some ⟨g, t * 3, none⟩), .int .i64 nn, y8, .pointer (some ⟨h, 0, none⟩), .pointer (some ⟨h, 0, none⟩), .pointer (some ⟨h, 0, none⟩), .pointer (some ⟨p, 0, none⟩), .pointer (some ⟨p, 0, none⟩), .pointer (some ⟨p, 0, none⟩), .pointer (some ⟨p, 2, none⟩), .pointer (some ⟨p, 0, none⟩), .pointer (some ⟨p, 0, none⟩), .pointer (some ⟨p, 0, none⟩), .slice (some ⟨g, 0, none⟩) cs.length vc, .int .i64 (cs.length : Int), .int .i64 (t : Int), .bool true, .int .i64 (t : Int), .pointer (some ⟨p, 0, none⟩), .pointer (some ⟨p, 0, none⟩), .pointer (some ⟨p, 0, none⟩), .slice (some ⟨g, 0, none⟩) cs.length vc, .int .i64 (t : Int), .pointer (some ⟨g, t * 3, none⟩), y30, y31, y32, y33, y34, y35, y36, y37, y38, y39, y40, y41, y42, y43, y44, y45, y46, y47, y48, y49, y50, y51, y52, y53, y54, fz 55, fz 56, fz 57, fz 58, fz 59, fz 60, fz 61, fz 62, fz 63, fz 64, fz 65, fz 66, fz 67, fz 68, fz 69, fz 70, fz 71, fz 72, fz 73, fz 74, fz 75, fz 76, fz 77, fz 78, fz 79, fz 80, fz 81, fz 82, fz 83, fz 84, fz 85, fz 86, fz 87, fz 88, undef, undef, undef, undef, undef, undef], defers := [] } wX := by
   clear JD JG p0
   intro y8 y30 y31 y32 y33 y34 y35 y36 y37 y38 y39 y40 y41 y42 y43 y44 y45 y46 y47 y48 y49 y50 y51 y52 y53 y54 nn wX hnn hjd hjg
   have HN := Keep.mk hnn
   have JD := Keep.mk hjd
   have JG := Keep.mk hjg
   clear hnn hjd hjg
   refine hK11 _ _ ?_
   refine wp_seq_k fun K13 hK13 => ?_
   have HNb : Keep (0 ≤ nn ∧ nn ≤ (f.bs.length : Int) - xs) := ⟨by have h := HB.out; rw [HN.out, HXs.out]; rw [HXs.out] at h; exact kpN_le kp t f ⟨h.1, h.2.1⟩⟩
   obtain ⟨m, hm⟩ : ∃ m : Nat, Keep ((m : Int) = xs + nn) := ⟨(xs + nn).toNat, ⟨by have := HB.out; have := HNb.out; omega⟩⟩
   have hws : IntKind.i64.wrap (xs + nn) = (m : Int) := by have := hm.out; have := HB.out; have := HNb.out; rw [IntKind.wrap_i64]; omega
   have c2 := (own_fc JD.out.own HX.out).2
   change wX.cell? ⟨g, t * 3 + 2, none⟩ = some (.int .i64 xs) at c2
   have f_o : wX.frozen? ⟨g, t * 3 + 2, none⟩ = false := ownF_frozen JD.out.own _
   refine rgn ?_
   refine VlS (.pointer (some ⟨g, t * 3, none⟩)) ?_
   refine VlS (.pointer (some ⟨g, t * 3, none⟩)) ?_
   refine VlS (.pointer (some ⟨g, t * 3 + 2, none⟩)) ?_
   refine VlS (.int .i64 xs) ?_
   refine VlS (.int .i64 nn) ?_
   refine VlS (.int .i64 (m : Int)) ?_
   refine VlS (.pointer (some ⟨g, t * 3, none⟩)) ?_
   refine VlS (.pointer (some ⟨g, t * 3 + 2, none⟩)) ?_
   refine WL.cell (by kernel_rfl) (wX.setCell ⟨g, t * 3 + 2, none⟩ (.int .i64 (m : Int))) (by go_simp) ?_
   have JD2 : Keep (DskAt (wX.setCell ⟨g, t * 3 + 2, none⟩ (.int .i64 (m : Int))) p (.slice (some ⟨g, 0, none⟩) cs.length vc) (ct.set t ⟨xn, .slice xa f.bs.length xc, (m : Int)⟩) { Dt with fs := Dt.fs.set t { f with sf := (m : Int) } }) := ⟨dsk_sf (z := (m : Int)) JD.out HX.out HFt.out⟩
   have G2 : Keep (Grown w (wX.setCell ⟨g, t * 3 + 2, none⟩ (.int .i64 (m : Int))) (fun k => k = p ∨ (Value.slice (some ⟨g, 0, none⟩) cs.length vc).ownBlock = some k)) := ⟨JG.out.trans (Grown.setCell wX g _ _ fun _ => .inr rfl)⟩
   have HM : Keep (m ≤ f.bs.length) := ⟨by have := hm.out; have := HB.out; have := HNb.out; omega⟩
   have HX2 : Keep ((ct.set t (⟨xn, .slice xa f.bs.length xc, (m : Int)⟩ : FC))[t]? = some (⟨xn, .slice xa f.bs.length xc, (m : Int)⟩ : FC)) := ⟨List.getElem?_set_self (List.getElem?_eq_some_iff.1 HX.out).1⟩
   have HF2 : Keep ((Dt.fs.set t { f with sf := (m : Int) })[t]? = some ({ f with sf := (m : Int) } : PF)) := ⟨List.getElem?_set_self (List.getElem?_eq_some_iff.1 HFt.out).1⟩
   clear c2 f_o hws JD JG
   generalize (wX.setCell ⟨g, t * 3 + 2, none⟩ (.int .i64 (m : Int))) = w2 at *
   obtain ⟨D2, hD2⟩ : ∃ z : DV, Keep (z = { Dt with fs := Dt.fs.set t { f with sf := (m : Int) } }) := ⟨_, ⟨rfl⟩⟩
   have HF3 : Keep (D2.fs[t]? = some ({ f with sf := (m : Int) } : PF)) := ⟨by rw [hD2.out]; exact HF2.out⟩
   have HU3 : Keep (D2.used = Dt.used) := ⟨by rw [hD2.out]⟩
   rw [← hD2.out] at JD2
   obtain ⟨c2, hc2⟩ : ∃ z : List FC, Keep (z = ct.set t ⟨xn, .slice xa f.bs.length xc, (m : Int)⟩) := ⟨_, ⟨rfl⟩⟩
   rw [← hc2.out] at JD2 HX2
   clear HF2
   simp only [Act.put]
   refine WL.nil (hK13 _ _ ?_)
   refine wp_seq_k fun K14 hK14 => ?_
   have JD3 : Keep (DskAt w2.drew p (.slice (some ⟨g, 0, none⟩) cs.length vc) c2 D2) := ⟨JD2.out.grown (Grown.refl w2 (fun _ => False)).drew fun _ _ h => h⟩
   have G3 : Keep (Grown w w2.drew (fun k => k = p ∨ (Value.slice (some ⟨g, 0, none⟩) cs.length vc).ownBlock = some k)) := ⟨G2.out.drew⟩
   clear JD2 G2
   have HR3 : Keep (RowAt w2.drew (.slice xa f.bs.length xc) f.bs) := ⟨(JD3.out.fcs.each t _ _ HX2.out HF3.out).2.2.row⟩
   obtain ⟨vs, hs1, hs2⟩ := sub_any (.slice xa f.bs.length xc) f.bs w2.drew HR3.out m HM.out
   have HS1 := Keep.mk hs1
   have HS2 := Keep.mk hs2
   clear hs1 hs2
   refine wp_region_held_drew (S := fun wx => wx.cell? ⟨g, t * 3 + 2, none⟩ = some (.int .i64 (m : Int))) (by kernel_rfl) (own_fc JD3.out.own HX2.out).2 (fun hHeld => ?_)
   generalize w2.drew = w3 at *
   refine TkG (i := 0) (oi := ⟨some 63, Op.move (Operand.tmp 6), 107, _, _, none⟩) (v := .pointer (some ⟨g, t * 3, none⟩)) rfl hHeld ?_
   refine TkG (i := 2) (oi := ⟨some 65, Op.move (Operand.tmp 6), 107, _, _, none⟩) (v := .pointer (some ⟨g, t * 3, none⟩)) rfl hHeld ?_
   refine TkG (i := 3) (oi := ⟨some 66, Op.nilCheck (Operand.tmp 65), 0, _, _, none⟩) (v := .pointer (some ⟨g, t * 3, none⟩)) rfl hHeld ?_
   refine TkG (i := 4) (oi := ⟨some 67, Op.fieldAddr 49 (Operand.tmp 66) 1, 0, _, _, none⟩) (v := .pointer (some ⟨g, t * 3 + 1, none⟩)) rfl hHeld ?_
   refine TkG (i := 6) (oi := ⟨some 69, Op.move (Operand.tmp 6), 107, _, _, none⟩) (v := .pointer (some ⟨g, t * 3, none⟩)) rfl hHeld ?_
   refine TkG (i := 7) (oi := ⟨some 70, Op.nilCheck (Operand.tmp 69), 0, _, _, none⟩) (v := .pointer (some ⟨g, t * 3, none⟩)) rfl hHeld ?_
   refine TkG (i := 8) (oi := ⟨some 71, Op.fieldAddr 49 (Operand.tmp 70) 2, 0, _, _, none⟩) (v := .pointer (some ⟨g, t * 3 + 2, none⟩)) rfl hHeld ?_
   refine TkG (i := 9) (oi := ⟨some 72, Op.load 3 (Operand.tmp 71), 3, _, _, none⟩) (v := .int .i64 (m : Int)) rfl hHeld ?_
   refine wpAnyH_ready (rs := [1, 5]) (by kernel_rfl) (by simp) ?_
   refine AllReadyH.cons (o := ⟨some 64, Op.buildSlice 40 0 #[], 40, _, _, none⟩) rfl (fun K hK => ?_) (AllReadyH.cons (o := ⟨some 68, Op.load 40 (Operand.tmp 67), 40, _, _, none⟩) rfl (fun K hK => ?_) AllReadyH.nil)
   rw [if_pos (by rfl)]
   refine wp_bsj 40 0 _ rfl #[] (by simp) _ _ (bsBE w3) ?_
   have hbx := below_new w3 (.cells #[] 5)
   have HE4 : Keep (Own (w3.alloc (.cells #[] 5)) (.slice (some ⟨w3.heap.size, 0, none⟩) 0 0) []) := ⟨own_empty _ _ (Blk.new w3 5 #[])⟩
   have JD4 := Keep.mk (JD3.out.below hbx)
   have B4 := Keep.mk hbx
   clear hbx
   generalize w3.alloc (.cells #[] 5) = w4 at *
   obtain ⟨ge, hge⟩ : ∃ q, Keep (q = w3.heap.size) := ⟨_, ⟨rfl⟩⟩
   rw [← hge.out] at HE4 ⊢
   refine hK _ _ (own_fc JD4.out.own HX2.out).2 fun hB4 => ?_
   clear hK
   simp only [Act.put, pqA, pqB, pqC]
   refine wpAnyH_ready (rs := [5]) (by kernel_rfl) (by simp) ?_
   refine AllReadyH.cons (o := ⟨some 68, Op.load 40 (Operand.tmp 67), 40, _, _, none⟩) rfl (fun K hK => ?_) AllReadyH.nil
   rw [if_pos (by rfl)]
   have cl : w4.cell? ⟨g, t * 3 + 1, none⟩ = some (.slice xa f.bs.length xc) := (own_fc JD4.out.own HX2.out).1
   refine wp_val (.slice xa f.bs.length xc) (by go_simp) ?_
   clear cl
   refine hK _ _ (own_fc JD4.out.own HX2.out).2 fun hL4 => ?_
   clear hK
   simp only [Act.put, pqA, pqB, pqC]
   refine tkS (i := 10) (oi := ⟨some 73, Op.slice 40 (Operand.tmp 68) none (some (Operand.tmp 72)) none, 40, _, _, none⟩) (v := vs) rfl (yieldsIf_slice (by rfl) 40 (.tmp 68) (.tmp 72) rfl (.slice xa f.bs.length xc) (.int .i64 (m : Int)) vs rfl rfl HS1.out) hL4 ?_
   refine wpAnyH_ready (rs := [11]) (by kernel_rfl) (by simp) ?_
   refine AllReadyH.cons (o := ⟨some 74, Op.call { callee := Callee.builtin Builtin.append, args := #[Operand.tmp 64, Operand.tmp 73], argTypes := #[40, 40] }, 40, _, _, none⟩) rfl (fun K hK => ?_) AllReadyH.nil
   rw [if_pos (by rfl)]
   refine wp_app (.tmp 64) (.tmp 73) rfl (.slice (some ⟨ge, 0, none⟩) 0 0) vs [] (f.bs.take m) rfl rfl HE4.out (HS2.out w4 (HR3.out.below B4.out)) (by have := HB.out; simp; omega) fun v9 w9 hp => ?_
   have HV9 : Keep (Own w9 v9 (f.bs.take m)) := ⟨by have h := hp.1; rw [List.nil_append] at h; exact h⟩
   have N9 : Keep (∀ k, v9.ownBlock = some k → w3.heap.size ≤ k) := ⟨own_new hp B4.out.size fun k hk => by have e : ge = k := Option.some.inj hk; have := hge.out; omega⟩
   have B9 : Keep (Below w3.heap.size w3 w9) := ⟨B4.out.trans (hp.grown.to_below (B := w3.heap.size) (fun k hk e => by have e : ge = k := Option.some.inj e; have := hge.out; omega) B4.out.size)⟩
   have JD9 := Keep.mk (JD3.out.below B9.out)
   clear hp
   obtain ⟨a9, n9, k9, e9⟩ := HV9.out.sl
   subst e9
   refine hK _ _ (own_fc JD9.out.own HX2.out).2 fun hA9 => ?_
   clear hK
   simp only [Act.put, pqA, pqB, pqC]
   refine TkG (i := 12) (oi := ⟨some 75, Op.nilCheck (Operand.tmp 63), 0, _, _, none⟩) (v := .pointer (some ⟨g, t * 3, none⟩)) rfl hA9 ?_
   refine TkG (i := 13) (oi := ⟨some 76, Op.fieldAddr 49 (Operand.tmp 75) 1, 0, _, _, none⟩) (v := .pointer (some ⟨g, t * 3 + 1, none⟩)) rfl hA9 ?_
   refine wpAnyH_ready (rs := [14]) (by kernel_rfl) (by simp) ?_
   refine AllReadyH.cons (o := ⟨none, Op.store 40 (Operand.tmp 76) (Operand.tmp 74), 0, _, _, none⟩) rfl (fun K hK => ?_) AllReadyH.nil
   rw [if_pos (by rfl)]
   have f_o : w9.frozen? ⟨g, t * 3 + 1, none⟩ = false := ownF_frozen JD9.out.own _
   have cl := (own_fc JD9.out.own HX2.out).1
   refine wp_cellS (w9.setCell ⟨g, t * 3 + 1, none⟩ (.slice a9 n9 k9)) (by go_simp) ?_
   clear f_o cl
   have JD10 : Keep (DskAt (w9.setCell ⟨g, t * 3 + 1, none⟩ (.slice a9 n9 k9)) p (.slice (some ⟨g, 0, none⟩) cs.length vc) (c2.set t (⟨xn, .slice a9 n9 k9, (m : Int)⟩ : FC)) { D2 with fs := D2.fs.set t ({ nm := f.nm, bs := f.bs.take m, sf := (m : Int) } : PF) }) := ⟨dsk_newb JD3.out HX2.out HF3.out B9.out HV9.out N9.out⟩
   have HX10 : Keep ((c2.set t (⟨xn, .slice a9 n9 k9, (m : Int)⟩ : FC))[t]? = some (⟨xn, .slice a9 n9 k9, (m : Int)⟩ : FC)) := ⟨List.getElem?_set_self (List.getElem?_eq_some_iff.1 HX2.out).1⟩
   have G10 : Keep (Grown w (w9.setCell ⟨g, t * 3 + 1, none⟩ (.slice a9 n9 k9)) (fun k => k = p ∨ (Value.slice (some ⟨g, 0, none⟩) cs.length vc).ownBlock = some k)) := ⟨(G3.out.trans (Grown.below B9.out)).trans (Grown.setCell w9 g _ _ fun _ => .inr rfl)⟩
   have N10 : Keep (∀ k, (Value.slice a9 n9 k9).ownBlock = some k → w.heap.size ≤ k) := ⟨fun k hk => Nat.le_trans G3.out.size (N9.out k hk)⟩
   clear JD9 JD3 G3 B9 HV9 N9 JD4 HE4 B4 HS1 HS2 HR3
   generalize (w9.setCell ⟨g, t * 3 + 1, none⟩ (.slice a9 n9 k9)) = w10 at *
   refine hK _ _ (own_fc JD10.out.own HX10.out).2 fun hS10 => ?_
   clear hK
   simp only [Act.put, pqA, pqB, pqC]
   refine wpAnyH_done (by kernel_rfl) ?_ _
   rotate_left
   rw [if_pos (by rfl)]
   have cl : w3.cell? ⟨g, t * 3 + 1, none⟩ = some (.slice xa f.bs.length xc) := (own_fc JD3.out.own HX2.out).1
   refine wp_val (.slice xa f.bs.length xc) (by go_simp) ?_
   clear cl
   refine hK _ _ (own_fc JD3.out.own HX2.out).2 fun hL3 => ?_
   clear hK
   simp only [Act.put, pqA, pqB, pqC]
   refine tkS (i := 10) (oi := ⟨some 73, Op.slice 40 (Operand.tmp 68) none (some (Operand.tmp 72)) none, 40, _, _, none⟩) (v := vs) rfl (yieldsIf_slice (by rfl) 40 (.tmp 68) (.tmp 72) rfl (.slice xa f.bs.length xc) (.int .i64 (m : Int)) vs rfl rfl HS1.out) hL3 ?_
   refine wpAnyH_ready (rs := [1]) (by kernel_rfl) (by simp) ?_
   refine AllReadyH.cons (o := ⟨some 64, Op.buildSlice 40 0 #[], 40, _, _, none⟩) rfl (fun K hK => ?_) AllReadyH.nil
   rw [if_pos (by rfl)]
   refine wp_bsj 40 0 _ rfl #[] (by simp) _ _ (bsBE w3) ?_
   have hbx := below_new w3 (.cells #[] 5)
   have HE4 : Keep (Own (w3.alloc (.cells #[] 5)) (.slice (some ⟨w3.heap.size, 0, none⟩) 0 0) []) := ⟨own_empty _ _ (Blk.new w3 5 #[])⟩
   have JD4 := Keep.mk (JD3.out.below hbx)
   have B4 := Keep.mk hbx
   clear hbx
   generalize w3.alloc (.cells #[] 5) = w4 at *
   obtain ⟨ge, hge⟩ : ∃ q, Keep (q = w3.heap.size) := ⟨_, ⟨rfl⟩⟩
   rw [← hge.out] at HE4 ⊢
   refine hK _ _ (own_fc JD4.out.own HX2.out).2 fun hB4 => ?_
   clear hK
   simp only [Act.put, pqA, pqB, pqC]
   refine wpAnyH_ready (rs := [11]) (by kernel_rfl) (by simp) ?_
   refine AllReadyH.cons (o := ⟨some 74, Op.call { callee := Callee.builtin Builtin.append, args := #[Operand.tmp 64, Operand.tmp 73], argTypes := #[40, 40] }, 40, _, _, none⟩) rfl (fun K hK => ?_) AllReadyH.nil
   rw [if_pos (by rfl)]
   refine wp_app (.tmp 64) (.tmp 73) rfl (.slice (some ⟨ge, 0, none⟩) 0 0) vs [] (f.bs.take m) rfl rfl HE4.out (HS2.out w4 (HR3.out.below B4.out)) (by have := HB.out; simp; omega) fun v9 w9 hp => ?_
   have HV9 : Keep (Own w9 v9 (f.bs.take m)) := ⟨by have h := hp.1; rw [List.nil_append] at h; exact h⟩
   have N9 : Keep (∀ k, v9.ownBlock = some k → w3.heap.size ≤ k) := ⟨own_new hp B4.out.size fun k hk => by have e : ge = k := Option.some.inj hk; have := hge.out; omega⟩
   have B9 : Keep (Below w3.heap.size w3 w9) := ⟨B4.out.trans (hp.grown.to_below (B := w3.heap.size) (fun k hk e => by have e : ge = k := Option.some.inj e; have := hge.out; omega) B4.out.size)⟩
   have JD9 := Keep.mk (JD3.out.below B9.out)
   clear hp
   obtain ⟨a9, n9, k9, e9⟩ := HV9.out.sl
   subst e9
   refine hK _ _ (own_fc JD9.out.own HX2.out).2 fun hA9 => ?_
   clear hK
   simp only [Act.put, pqA, pqB, pqC]
   refine TkG (i := 12) (oi := ⟨some 75, Op.nilCheck (Operand.tmp 63), 0, _, _, none⟩) (v := .pointer (some ⟨g, t * 3, none⟩)) rfl hA9 ?_
   refine TkG (i := 13) (oi := ⟨some 76, Op.fieldAddr 49 (Operand.tmp 75) 1, 0, _, _, none⟩) (v := .pointer (some ⟨g, t * 3 + 1, none⟩)) rfl hA9 ?_
   refine wpAnyH_ready (rs := [14]) (by kernel_rfl) (by simp) ?_
   refine AllReadyH.cons (o := ⟨none, Op.store 40 (Operand.tmp 76) (Operand.tmp 74), 0, _, _, none⟩) rfl (fun K hK => ?_) AllReadyH.nil
   rw [if_pos (by rfl)]
   have f_o : w9.frozen? ⟨g, t * 3 + 1, none⟩ = false := ownF_frozen JD9.out.own _
   have cl := (own_fc JD9.out.own HX2.out).1
   refine wp_cellS (w9.setCell ⟨g, t * 3 + 1, none⟩ (.slice a9 n9 k9)) (by go_simp) ?_
   clear f_o cl
   have JD10 : Keep (DskAt (w9.setCell ⟨g, t * 3 + 1, none⟩ (.slice a9 n9 k9)) p (.slice (some ⟨g, 0, none⟩) cs.length vc) (c2.set t (⟨xn, .slice a9 n9 k9, (m : Int)⟩ : FC)) { D2 with fs := D2.fs.set t ({ nm := f.nm, bs := f.bs.take m, sf := (m : Int) } : PF) }) := ⟨dsk_newb JD3.out HX2.out HF3.out B9.out HV9.out N9.out⟩
   have HX10 : Keep ((c2.set t (⟨xn, .slice a9 n9 k9, (m : Int)⟩ : FC))[t]? = some (⟨xn, .slice a9 n9 k9, (m : Int)⟩ : FC)) := ⟨List.getElem?_set_self (List.getElem?_eq_some_iff.1 HX2.out).1⟩
   have G10 : Keep (Grown w (w9.setCell ⟨g, t * 3 + 1, none⟩ (.slice a9 n9 k9)) (fun k => k = p ∨ (Value.slice (some ⟨g, 0, none⟩) cs.length vc).ownBlock = some k)) := ⟨(G3.out.trans (Grown.below B9.out)).trans (Grown.setCell w9 g _ _ fun _ => .inr rfl)⟩
   have N10 : Keep (∀ k, (Value.slice a9 n9 k9).ownBlock = some k → w.heap.size ≤ k) := ⟨fun k hk => Nat.le_trans G3.out.size (N9.out k hk)⟩
   clear JD9 JD3 G3 B9 HV9 N9 JD4 HE4 B4 HS1 HS2 HR3
   generalize (w9.setCell ⟨g, t * 3 + 1, none⟩ (.slice a9 n9 k9)) = w10 at *
   refine hK _ _ (own_fc JD10.out.own HX10.out).2 fun hS10 => ?_
   clear hK
   simp only [Act.put, pqA, pqB, pqC]
   refine wpAnyH_done (by kernel_rfl) ?_ _
   rotate_left
   all_goals
    refine hK14 _ _ ?_
    have JD11 : Keep (DskAt w10.drew p (.slice (some ⟨g, 0, none⟩) cs.length vc) (c2.set t (⟨xn, .slice a9 n9 k9, (m : Int)⟩ : FC)) { D2 with fs := D2.fs.set t ({ nm := f.nm, bs := f.bs.take m, sf := (m : Int) } : PF) }) := ⟨JD10.out.grown (Grown.refl w10 (fun _ => False)).drew fun _ _ h => h⟩
    have G11 : Keep (Grown w w10.drew (fun k => k = p ∨ (Value.slice (some ⟨g, 0, none⟩) cs.length vc).ownBlock = some k)) := ⟨G10.out.drew⟩
    have hgp : Keep (g ≠ p) := ⟨fun e => JD11.out.own.ne JD11.out.blk (by decide) (by rw [e]; rfl)⟩
    have hwu : IntKind.i64.wrap (D2.used + (m : Int)) = D2.used + (m : Int) := by rw [IntKind.wrap_i64]; have := HUt.out; have := HU3.out; have := HM.out; have := HB.out; omega
    clear JD10 G10
    refine wp_region_held_drew (S := fun wx => wx.cell? ⟨g, t * 3 + 2, none⟩ = some (.int .i64 (m : Int))) (by kernel_rfl) (own_fc JD11.out.own HX10.out).2 (fun hHeld => ?_)
    generalize w10.drew = w11 at *
    refine TkG (i := 0) (oi := ⟨some 77, Op.move (Operand.tmp 4), 65, _, _, none⟩) (v := .pointer (some ⟨p, 0, none⟩)) rfl hHeld ?_
    refine TkG (i := 1) (oi := ⟨some 78, Op.nilCheck (Operand.tmp 77), 0, _, _, none⟩) (v := .pointer (some ⟨p, 0, none⟩)) rfl hHeld ?_
    refine TkG (i := 2) (oi := ⟨some 79, Op.fieldAddr 71 (Operand.tmp 78) 2, 0, _, _, none⟩) (v := .pointer (some ⟨p, 2, none⟩)) rfl hHeld ?_
    refine TkG (i := 4) (oi := ⟨some 81, Op.move (Operand.tmp 6), 107, _, _, none⟩) (v := .pointer (some ⟨g, t * 3, none⟩)) rfl hHeld ?_
    refine TkG (i := 5) (oi := ⟨some 82, Op.nilCheck (Operand.tmp 81), 0, _, _, none⟩) (v := .pointer (some ⟨g, t * 3, none⟩)) rfl hHeld ?_
    refine TkG (i := 6) (oi := ⟨some 83, Op.fieldAddr 49 (Operand.tmp 82) 2, 0, _, _, none⟩) (v := .pointer (some ⟨g, t * 3 + 2, none⟩)) rfl hHeld ?_
    refine TkG (i := 7) (oi := ⟨some 84, Op.load 3 (Operand.tmp 83), 3, _, _, none⟩) (v := .int .i64 (m : Int)) rfl hHeld ?_
    refine wpAnyH_ready (rs := [3]) (by kernel_rfl) (by simp) ?_
    refine AllReadyH.cons (o := ⟨some 80, Op.load 3 (Operand.tmp 79), 3, _, _, none⟩) rfl (fun K hK => ?_) AllReadyH.nil
    rw [if_pos (by rfl)]
    have cl : w11.cell? ⟨p, 2, none⟩ = some (.int .i64 D2.used) := JD11.out.blk.c 2 rfl
    refine wp_val (.int .i64 D2.used) (by go_simp) ?_
    clear cl
    refine hK _ _ (own_fc JD11.out.own HX10.out).2 fun hH1 => ?_
    clear hK
    simp only [Act.put, pqA, pqB, pqC]
    refine TkG (i := 8) (oi := ⟨some 85, Op.binOp BinOp.add 3 (Operand.tmp 80) (Operand.tmp 84) 3, 3, _, _, none⟩) (v := .int .i64 (D2.used + (m : Int))) rfl hH1 ?_
    refine TkG (i := 9) (oi := ⟨some 86, Op.nilCheck (Operand.tmp 77), 0, _, _, none⟩) (v := .pointer (some ⟨p, 0, none⟩)) rfl hH1 ?_
    refine TkG (i := 10) (oi := ⟨some 87, Op.fieldAddr 71 (Operand.tmp 86) 2, 0, _, _, none⟩) (v := .pointer (some ⟨p, 2, none⟩)) rfl hH1 ?_
    refine wpAnyH_ready (rs := [11]) (by kernel_rfl) (by simp) ?_
    refine AllReadyH.cons (o := ⟨none, Op.store 3 (Operand.tmp 87) (Operand.tmp 85), 0, _, _, none⟩) rfl (fun K hK => ?_) AllReadyH.nil
    rw [if_pos (by rfl)]
    have f_o := JD11.out.blk.frozen 2
    have cl : w11.cell? ⟨p, 2, none⟩ = some (.int .i64 D2.used) := JD11.out.blk.c 2 rfl
    refine wp_cellS (w11.setCell ⟨p, 2, none⟩ (.int .i64 (D2.used + (m : Int)))) (by go_simp) ?_
    clear f_o cl
    have JD12 : Keep (DskAt (w11.setCell ⟨p, 2, none⟩ (.int .i64 (D2.used + (m : Int)))) p (.slice (some ⟨g, 0, none⟩) cs.length vc) (c2.set t (⟨xn, .slice a9 n9 k9, (m : Int)⟩ : FC)) { D2 with fs := D2.fs.set t ({ nm := f.nm, bs := f.bs.take m, sf := (m : Int) } : PF), used := D2.used + (m : Int) }) := ⟨JD11.out.put rfl rfl⟩
    have G12 : Keep (Grown w (w11.setCell ⟨p, 2, none⟩ (.int .i64 (D2.used + (m : Int)))) (fun k => k = p ∨ (Value.slice (some ⟨g, 0, none⟩) cs.length vc).ownBlock = some k)) := ⟨G11.out.trans (Grown.setCell w11 p 2 _ fun _ => .inl rfl)⟩
    clear JD11 G11 hwu
    generalize (w11.setCell ⟨p, 2, none⟩ (.int .i64 (D2.used + (m : Int)))) = w12 at *
    refine hK _ _ (own_fc JD12.out.own HX10.out).2 fun hS12 => ?_
    clear hK
    simp only [Act.put, pqA, pqB, pqC]
    refine wpAnyH_done (by kernel_rfl) ?_ _
    refine hK7 _ _ ?_
    refine rgn ?_
    refine VlS (.int .i64 ((t : Int) + 1)) ?_
    refine VlS (.int .i64 ((t : Int) + 1)) ?_
    refine WL.nil ?_
    refine ⟨⟨t + 1, c2.set t (⟨xn, .slice a9 n9 k9, (m : Int)⟩ : FC), _, rfl, by omega, by rw [hc2.out, List.length_set, List.length_set]; exact JC.out, JD12.out, ?_, G12.out, ?_⟩, ?_⟩
    ·have hcr : f.crash (kpN kp t f) = ({ nm := f.nm, bs := f.bs.take m, sf := (m : Int) } : PF) := by
      have e : f.sf + kpN kp t f = (m : Int) := by rw [← HXs.out, ← HN.out]; exact hm.out.symm
      unfold PF.crash
      rw [e, Int.toNat_natCast]
     have hLt : t < (crT kp t D.fs).length := by rw [crT_len]; exact hLD
     rw [crT_step kp t D.fs f HFd.out, hcr, usd_step _ _ _ hLt]
     have e1 : D2.fs.set t ({ nm := f.nm, bs := f.bs.take m, sf := (m : Int) } : PF) = (crT kp t D.fs).set t ({ nm := f.nm, bs := f.bs.take m, sf := (m : Int) } : PF) := by rw [hD2.out, JE.out]; exact List.set_set ..
     have e2 : D2.used = usd ((crT kp t D.fs).take t) := by rw [HU3.out, JE.out]
     have e3 : ((f.bs.take m).length : Int) = (m : Int) := by rw [List.length_take]; have := HM.out; omega
     rw [e1, e2]
     show _ = _
     rw [hD2.out, JE.out]
     simp only [e3]
    ·intro k hk
     have h1 := dskS_newb (B := w.heap.size) HX2.out N10.out k hk
     rcases h1 with h1 | h1
     ·rw [hc2.out] at h1
      exact JS.out k (dskS_sync (x := (⟨xn, .slice xa f.bs.length xc, xs⟩ : FC)) HX.out h1)
     ·exact .inr h1
    ·simp only [intOf]; show cs.length - ((t : Int) + 1).toNat < cs.length - ((t : Int)).toNat; omega
  refine rgn ?_
  refine VlS (.int .i64 (t : Int)) ?_
  refine VlS (.slice ka kp.length kc) ?_
  refine VlS (.int .i64 (kp.length : Int)) ?_
  by_cases h7_3 : (t : Int) < (kp.length : Int)
  ·skip
   refine VbT ?_
   refine WL.nil (hK12 _ _ ?_)
   refine wp_cond_true rfl ?_
   refine wp_seq_k fun K16 hK16 => ?_
   have hkn : kp ≠ [] := fun e => by rw [e] at h7_3; simp at h7_3; omega
   obtain ⟨q, ko, hq, hc⟩ := (HKp.out.grown JG.out fun k hk h => h.elim (HKn.out hkn k hk).1 (HKn.out hkn k hk).2).at (t := t) (by omega)
   clear hkn
   subst hq
   obtain ⟨kv, hkv⟩ : ∃ z, Keep (z = kp.getD t 0) := ⟨_, ⟨rfl⟩⟩
   rw [← hkv.out] at hc
   have ck : wr.drew.cell? ⟨q, ko + t, none⟩ = some (.int .i64 kv) := hc
   clear hc p0
   obtain ⟨mm, hmm⟩ : ∃ z, Keep (z = (f.bs.length : Int) - xs) := ⟨_, ⟨rfl⟩⟩
   obtain ⟨kk, hkk⟩ : ∃ z, Keep (z = (f.bs.length : Int) - xs + 1) := ⟨_, ⟨rfl⟩⟩
   have hw1 : IntKind.i64.wrap ((f.bs.length : Int) - xs) = mm := by have := hmm.out; have := HB.out; rw [IntKind.wrap_i64]; omega
   have hw2 : IntKind.i64.wrap (mm + 1) = kk := by have := hmm.out; have := hkk.out; have := HB.out; rw [IntKind.wrap_i64]; omega
   have hkp : Keep (0 < kk ∧ kk ≤ 70368744177665) := ⟨by have := hkk.out; have := HB.out; omega⟩
   have hk0 : ¬ kk = 0 := by have := hkp.out; omega
   obtain ⟨r2, hr2⟩ : ∃ z, Keep (z = Int.tmod kv kk + kk) := ⟨_, ⟨rfl⟩⟩
   have hw3 : IntKind.i64.wrap (Int.tmod kv kk + kk) = r2 := by have := hr2.out; have := hkp.out; have := tm_bnd kv kk (by omega); rw [IntKind.wrap_i64]; omega
   obtain ⟨nn, hnn⟩ : ∃ z, Keep (z = Int.tmod r2 kk) := ⟨_, ⟨rfl⟩⟩
   have hw4 : Int.tmod r2 kk = nn := hnn.out.symm
   have HN : Keep (nn = kpN kp t f) := ⟨by unfold kpN; rw [if_pos (by omega), ← HXs.out, ← hkk.out, ← hkv.out, ← hr2.out, hnn.out]⟩
   have JDd : Keep (DskAt wr.drew p (.slice (some ⟨g, 0, none⟩) cs.length vc) ct Dt) := ⟨JD.out.grown (Grown.refl wr (fun _ => False)).drew fun _ _ h => h⟩
   have JGd : Keep (Grown w wr.drew (fun k => k = p ∨ (Value.slice (some ⟨g, 0, none⟩) cs.length vc).ownBlock = some k)) := ⟨JG.out.drew⟩
   clear JD JG hmm hkk hr2 hnn hkv
   refine wp_region_held_drew (S := fun wx => wx.cell? ⟨g, t * 3 + 1, none⟩ = some (.slice xa f.bs.length xc) ∧ wx.cell? ⟨g, t * 3 + 2, none⟩ = some (.int .i64 xs)) (by kernel_rfl) (own_fc JDd.out.own HX.out) (fun hHeld => ?_)
   generalize wr.drew = wa at *
   have JD := JDd
   have JG := JGd
   clear JDd JGd
   refine TkJ (i := 0) (oi := ⟨some 34, Op.move (Operand.tmp 6), 107, _, _, none⟩) (v := .pointer (some ⟨g, t * 3, none⟩)) rfl hHeld ?_
   refine TkJ (i := 1) (oi := ⟨some 35, Op.nilCheck (Operand.tmp 34), 0, _, _, none⟩) (v := .pointer (some ⟨g, t * 3, none⟩)) rfl hHeld ?_
   refine TkJ (i := 2) (oi := ⟨some 36, Op.fieldAddr 49 (Operand.tmp 35) 1, 0, _, _, none⟩) (v := .pointer (some ⟨g, t * 3 + 1, none⟩)) rfl hHeld ?_
   refine TkJ (i := 3) (oi := ⟨some 37, Op.load 40 (Operand.tmp 36), 40, _, _, none⟩) (v := .slice xa f.bs.length xc) rfl hHeld ?_
   refine TkJ (i := 4) (oi := ⟨some 38, Op.call { callee := Callee.builtin Builtin.len, args := #[Operand.tmp 37], argTypes := #[40] }, 3, _, _, none⟩) (v := .int .i64 (f.bs.length : Int)) rfl hHeld ?_
   refine TkJ (i := 5) (oi := ⟨some 39, Op.move (Operand.tmp 6), 107, _, _, none⟩) (v := .pointer (some ⟨g, t * 3, none⟩)) rfl hHeld ?_
   refine TkJ (i := 6) (oi := ⟨some 40, Op.nilCheck (Operand.tmp 39), 0, _, _, none⟩) (v := .pointer (some ⟨g, t * 3, none⟩)) rfl hHeld ?_
   refine TkJ (i := 7) (oi := ⟨some 41, Op.fieldAddr 49 (Operand.tmp 40) 2, 0, _, _, none⟩) (v := .pointer (some ⟨g, t * 3 + 2, none⟩)) rfl hHeld ?_
   refine TkJ (i := 8) (oi := ⟨some 42, Op.load 3 (Operand.tmp 41), 3, _, _, none⟩) (v := .int .i64 xs) rfl hHeld ?_
   refine TkJ (i := 9) (oi := ⟨some 43, Op.binOp BinOp.sub 3 (Operand.tmp 38) (Operand.tmp 42) 3, 3, _, _, none⟩) (v := .int .i64 mm) rfl hHeld ?_
   refine TkJ (i := 10) (oi := ⟨some 44, Op.binOp BinOp.add 3 (Operand.tmp 43) (Operand.const (Value.int IntKind.i64 1)) 3, 3, _, _, none⟩) (v := .int .i64 kk) rfl hHeld ?_
   refine TkJ (i := 11) (oi := ⟨some 8, Op.assign (Operand.tmp 44), 3, _, _, none⟩) (v := .int .i64 kk) rfl hHeld ?_
   refine wpAnyH_done (by kernel_rfl) ?_ _
   refine hK16 _ _ ?_
   refine rgn ?_
   refine VlS (.slice (some ⟨q, ko, none⟩) kp.length kc) ?_
   refine VlS (.int .i64 (t : Int)) ?_
   refine VlS (.pointer (some ⟨q, ko + t, none⟩)) ?_
   refine VlS (.int .i64 kv) ?_
   refine VlS (.int .i64 kk) ?_
   refine VlS (.int .i64 (Int.tmod kv kk)) ?_
   refine VlS (.int .i64 kk) ?_
   refine VlS (.int .i64 r2) ?_
   refine VlS (.int .i64 kk) ?_
   refine VlS (.int .i64 nn) ?_
   refine VlS (.int .i64 nn) ?_
   refine WL.nil ?_
   exact rest10 _ _ _ _ _ _ _ _ _ _ _ _ _ _ _ _ _ _ _ _ _ _ _ _ _ _ nn wa HN.out JD.out JG.out
  ·skip
   refine VbF ?_
   refine WL.nil (hK12 _ _ ?_)
   refine wp_cond_false rfl ?_
   refine wp_skip ?_
   exact rest10 _ _ _ _ _ _ _ _ _ _ _ _ _ _ _ _ _ _ _ _ _ _ _ _ _ _ 0 wr (by unfold kpN; rw [if_neg (by omega)]) JD.out JG.out
 ·have hlt' : ¬ (t : Int) < (cs.length : Int) := by omega
  have hte : Keep (t = D.fs.length) := ⟨by have := HD.out.fcs.len; omega⟩
  refine wp_seq_k fun K17 hK17 => rgn ?_
  refine VbF ?_
  refine WL.nil (hK17 _ _ ?_)
  refine wp_seq_k fun K18 hK18 => ?_
  refine wp_cond_false rfl ?_
  refine wp_exit ?_
  refine hK3 _ _ ?_
  refine wp_seq_k fun K19 hK19 => rgn ?_
  refine VlS (.pointer (some ⟨p, 0, none⟩)) ?_
  refine VlS (.pointer (some ⟨p, 0, none⟩)) ?_
  refine VlS (.pointer (some ⟨p, 4, none⟩)) ?_
  have cl := JD.out.blk.c 4 (by rfl : (stA (.slice va cs.length vc) Dt)[4]? = some (.bool Dt.out))
  have f_o := JD.out.blk.frozen 4
  refine WL.cell (by kernel_rfl) (wr.setCell ⟨p, 4, none⟩ (.bool false)) (by go_simp) ?_
  have JD2 : Keep (DskAt (wr.setCell ⟨p, 4, none⟩ (.bool false)) p (.slice va cs.length vc) ct { Dt with out := false }) := ⟨JD.out.put rfl rfl⟩
  have G2 : Keep (Grown w (wr.setCell ⟨p, 4, none⟩ (.bool false)) (fun k => k = p ∨ (Value.slice va cs.length vc).ownBlock = some k)) := ⟨JG.out.trans (Grown.setCell wr p 4 _ fun _ => .inl rfl)⟩
  clear cl f_o
  generalize wr.setCell ⟨p, 4, none⟩ (.bool false) = w2 at *
  simp only [Act.put]
  refine WL.nil (hK19 _ _ ?_)
  refine rgn ?_
  refine VlS (.pointer (some ⟨p, 0, none⟩)) ?_
  refine VlS (.pointer (some ⟨p, 0, none⟩)) ?_
  refine VlS (.pointer (some ⟨p, 3, none⟩)) ?_
  have cl := JD2.out.blk.c 3 (by rfl : (stA (.slice va cs.length vc) { Dt with out := false })[3]? = some (.int .i64 Dt.fuse))
  have f_o := JD2.out.blk.frozen 3
  refine WL.cell (by kernel_rfl) (w2.setCell ⟨p, 3, none⟩ (.int .i64 (-1))) (by go_simp) ?_
  have JD3 : Keep (DskAt (w2.setCell ⟨p, 3, none⟩ (.int .i64 (-1))) p (.slice va cs.length vc) ct { Dt with out := false, fuse := -1 }) := ⟨JD2.out.put rfl rfl⟩
  have G3 : Keep (Grown w (w2.setCell ⟨p, 3, none⟩ (.int .i64 (-1))) (fun k => k = p ∨ (Value.slice va cs.length vc).ownBlock = some k)) := ⟨G2.out.trans (Grown.setCell w2 p 3 _ fun _ => .inl rfl)⟩
  clear cl f_o
  generalize w2.setCell ⟨p, 3, none⟩ (.int .i64 (-1)) = w3 at *
  simp only [Act.put]
  refine WL.nil ?_
  go_end0
  refine ⟨rfl, ct, ?_, G3.out, JS.out⟩
  have h := JD3.out
  rw [JE.out] at h
  rw [hte.out] at h
  rw [List.take_of_length_le (by rw [crT_len]; exact Nat.le_refl _)] at h
  exact h
set_option maxRecDepth 8000 in
set_option maxHeartbeats 8000000 in
theorem do_fuse (G : GV) (D : DV) (u a oa on : Int) (nm : ByteArray) (vb vk : Value) (l kp : List Int) (w : World) (hG : GvAt w G D D) (hO : DOk D u a) (hu : u ≤ 1000000000000) (ha : a ≤ 100000000000) (hl : l.length ≤ 1000000000000) (hn : nm.size ≤ 1000000000000000) (hR : RowAt w vb l) (hRb : l ≠ [] → ∀ k, vb.ownBlock = some k → ¬ G.U k) (hKp : IntsAt w vk kp) (hKb : kp ≠ [] → ∀ k, vk.ownBlock = some k → ¬ G.U k) :
  Calls Tryz.prog 11 #[ptr G.g, .agg (opA ⟨8, oa, on, nm, vb, vk⟩)] w fun e w' => e = .returned (.bool true) ∧ ∃ G', GvAt w' G' ({ D with fuse := max (-1) on }) ({ D with fuse := max (-1) on }) ∧ GvN w w' G G' := by
 obtain ⟨ba, bc, rfl⟩ := row_form hR
 obtain ⟨ka, kc, rfl⟩ := hKp.form
 have HG := Keep.mk hG
 have HO := Keep.mk hO
 have Hu := Keep.mk hu
 have Ha := Keep.mk ha
 have Hl := Keep.mk hl
 have Hn := Keep.mk hn
 have HR := Keep.mk hR
 have HRb := Keep.mk hRb
 have HKp := Keep.mk hKp
 have HKb := Keep.mk hKb
 clear hG hO hu ha hl hn hR hRb hKp hKb
 go_enter Tryz.func11, Tryz.ntmps11
 refine wp_seq_k fun K1 hK1 => rgn ?_
 refine WL.box (by kernel_rfl) 43 (.tmp 1) rfl (opA (⟨8, oa, on, nm, .slice ba l.length bc, .slice ka kp.length kc⟩ : OX)) rfl ?_
 have HB := Keep.mk (Blk.new w 43 (opA (⟨8, oa, on, nm, .slice ba l.length bc, .slice ka kp.length kc⟩ : OX)))
 have B0 := Keep.mk (below_new w (.cells (opA (⟨8, oa, on, nm, .slice ba l.length bc, .slice ka kp.length kc⟩ : OX)) 43))
 change WL _ _ _ _ _ (w.alloc (.cells (opA (⟨8, oa, on, nm, .slice ba l.length bc, .slice ka kp.length kc⟩ : OX)) 43))
 generalize w.alloc (.cells (opA (⟨8, oa, on, nm, .slice ba l.length bc, .slice ka kp.length kc⟩ : OX)) 43) = w0 at *
 obtain ⟨q, hq⟩ : ∃ z, Keep (z = w.heap.size) := ⟨_, ⟨rfl⟩⟩
 rw [← hq.out] at HB ⊢
 have Lq : Keep (∀ k, k < w.heap.size → k ≠ q) := ⟨fun k hk => by rw [hq.out]; omega⟩
 have HU : Keep (∀ k, G.U k → k < w.heap.size) := ⟨fun k hk => HG.out.uLt hk⟩
 have G0 := Keep.mk (HG.out.below B0.out)
 have N0 : Keep (GvN w w0 G G) := ⟨GvN.blw G B0.out⟩
 have HR0 := Keep.mk (HR.out.below B0.out)
 have HK0 := Keep.mk (HKp.out.below B0.out)
 clear HG hq
 have q0 := HB.out.c 0 (by rfl : (opA (⟨8, oa, on, nm, .slice ba l.length bc, .slice ka kp.length kc⟩ : OX))[0]? = some (.int .i64 8))
 simp only [Act.put, pqA, pqB, pqC]
 refine VbF ?_
 refine WL.nil (hK1 _ _ ?_)
 refine wp_seq_k fun K2 hK2 => ?_
 refine wp_seq_k fun K3 hK3 => rgn ?_
 refine VlS (.pointer (some ⟨q, 0, none⟩)) ?_
 refine VlS (.int .i64 8) ?_
 refine WL.nil (hK3 _ _ ?_)
 refine wp_block ?_
 refine wp_seq_k fun K4 hK4 => rgn ?_
 refine VbF ?_
 refine VbF ?_
 refine WL.nil (hK4 _ _ ?_)
 refine wp_cond_false rfl ?_
 refine wp_seq_k fun K5 hK5 => rgn ?_
 refine VbF ?_
 refine VbF ?_
 refine WL.nil (hK5 _ _ ?_)
 refine wp_cond_false rfl ?_
 refine wp_seq_k fun K6 hK6 => rgn ?_
 refine VbF ?_
 refine VbF ?_
 refine WL.nil (hK6 _ _ ?_)
 refine wp_cond_false rfl ?_
 refine wp_seq_k fun K7 hK7 => rgn ?_
 refine VbF ?_
 refine VbF ?_
 refine WL.nil (hK7 _ _ ?_)
 refine wp_cond_false rfl ?_
 refine wp_seq_k fun K8 hK8 => rgn ?_
 refine VbF ?_
 refine VbF ?_
 refine WL.nil (hK8 _ _ ?_)
 refine wp_cond_false rfl ?_
 refine wp_seq_k fun K9 hK9 => rgn ?_
 refine VbF ?_
 refine VbF ?_
 refine WL.nil (hK9 _ _ ?_)
 refine wp_cond_false rfl ?_
 refine wp_seq_k fun K10 hK10 => rgn ?_
 refine VbT ?_
 refine VbT ?_
 refine WL.nil (hK10 _ _ ?_)
 refine wp_cond_true rfl ?_
 refine wp_seq_k fun K11 hK11 => ?_
 clear q0
 have G0d := Keep.mk G0.out.drew
 have N0d : Keep (GvN w w0.drew G _) := ⟨N0.out.trans (GvN.blw _ (Below.refl _ _).drew)⟩
 have HBd : Keep (Blk w0.drew q 43 (opA (⟨8, oa, on, nm, .slice ba l.length bc, .slice ka kp.length kc⟩ : OX))) := ⟨HB.out⟩
 refine wp_region_held_drew (S := DoS G.g G.d G.h G.x q oa on nm (.slice ba l.length bc) (.slice ka kp.length kc)) (by kernel_rfl) (dos_of G0d.out.c0 G0d.out.c1 G0d.out.c2 HBd.out) (fun hHeld => ?_)
 generalize w0.drew = w0d at *
 refine TkK (i := 0) (oi := ⟨some 200, Op.move (Operand.tmp 0), 26, _, _, none⟩) (v := .pointer (some ⟨G.g, 0, none⟩)) rfl hHeld ?_
 refine TkK (i := 4) (oi := ⟨some 204, Op.fieldAddr 43 (Operand.tmp 3) 2, 0, _, _, none⟩) (v := .pointer (some ⟨q, 2, none⟩)) rfl hHeld ?_
 refine TkK (i := 1) (oi := ⟨some 201, Op.nilCheck (Operand.tmp 200), 0, _, _, none⟩) (v := .pointer (some ⟨G.g, 0, none⟩)) rfl hHeld ?_
 refine TkK (i := 5) (oi := ⟨some 205, Op.load 3 (Operand.tmp 204), 3, _, _, none⟩) (v := .int .i64 on) rfl hHeld ?_
 refine TkK (i := 2) (oi := ⟨some 202, Op.fieldAddr 35 (Operand.tmp 201) 1, 0, _, _, none⟩) (v := .pointer (some ⟨G.g, 1, none⟩)) rfl hHeld ?_
 refine TkK (i := 3) (oi := ⟨some 203, Op.load 30 (Operand.tmp 202), 30, _, _, none⟩) (v := .pointer (some ⟨G.h, 0, none⟩)) rfl hHeld ?_
 refine wpAnyH_ready (rs := [6]) (by kernel_rfl) (by simp) ?_
 refine AllReadyH.cons (o := ⟨some 206, Op.call { callee := Callee.value (Operand.func 41), args := #[Operand.tmp 203, Operand.tmp 205], argTypes := #[30, 3] }, 0, _, _, none⟩) rfl (fun K hK => ?_) AllReadyH.nil
 rw [if_pos (by rfl)]
 refine wp_callF 41 _ _ rfl Tryz.in41 #[.pointer (some ⟨G.h, 0, none⟩), .int .i64 on] (by simp [Act.eval]) (fun vz wz => vz = .tuple #[] ∧ DskAt wz G.p G.vf G.cs { D with fuse := max (-1) on } ∧ Grown w0d wz fun k => k = G.p) ?_ ?_
 ·refine (fuse_any G.h G.p on G.vf G.cs D w0d G0d.out.hd G0d.out.dsk).mono ?_
  rintro e wz ⟨rfl, k1, k2⟩
  exact ⟨_, rfl, rfl, k1, k2⟩
 rintro vz w1 ⟨rfl, k1, k2⟩
 have k4 : Grown w0d w1 G.P := k2.mono fun k _ e => .inl e
 have G1 := Keep.mk (G0d.out.prog k1 k4 fun k h => .inl h)
 have N1 := Keep.mk (N0d.out.trans (GvN.prog (vf' := G.vf) (cs' := G.cs) k4 fun k h => .inl h))
 have H1 := Keep.mk (k4.blk HBd.out fun e => Lq.out q (HU.out q (.inr (.inr (.inr (.inl e))))) rfl)
 clear k1 k2 k4
 refine hK _ _ (dos_of G1.out.c0 G1.out.c1 G1.out.c2 H1.out) fun hH1 => ?_
 clear hK
 simp only [Act.put, pqA, pqB, pqC]
 refine wpAnyH_done (by kernel_rfl) ?_ _
 refine hK11 _ _ ?_
 refine wp_seq_k fun K12 hK12 => ?_
 have G1d := Keep.mk G1.out.drew
 have N1d : Keep (GvN w w1.drew G _) := ⟨N1.out.trans (GvN.blw _ (Below.refl _ _).drew)⟩
 have H1d : Keep (Blk w1.drew q 43 (opA (⟨8, oa, on, nm, .slice ba l.length bc, .slice ka kp.length kc⟩ : OX))) := ⟨H1.out⟩
 refine wp_region_held_drew (S := DoS G.g G.d G.h G.x q oa on nm (.slice ba l.length bc) (.slice ka kp.length kc)) (by kernel_rfl) (dos_of G1d.out.c0 G1d.out.c1 G1d.out.c2 H1d.out) (fun hHeld => ?_)
 generalize w1.drew = w1d at *
 refine TkK (i := 0) (oi := ⟨some 207, Op.move (Operand.tmp 0), 26, _, _, none⟩) (v := .pointer (some ⟨G.g, 0, none⟩)) rfl hHeld ?_
 refine TkK (i := 4) (oi := ⟨some 211, Op.fieldAddr 43 (Operand.tmp 3) 2, 0, _, _, none⟩) (v := .pointer (some ⟨q, 2, none⟩)) rfl hHeld ?_
 refine TkK (i := 1) (oi := ⟨some 208, Op.nilCheck (Operand.tmp 207), 0, _, _, none⟩) (v := .pointer (some ⟨G.g, 0, none⟩)) rfl hHeld ?_
 refine TkK (i := 5) (oi := ⟨some 212, Op.load 3 (Operand.tmp 211), 3, _, _, none⟩) (v := .int .i64 on) rfl hHeld ?_
 refine TkK (i := 2) (oi := ⟨some 209, Op.fieldAddr 35 (Operand.tmp 208) 2, 0, _, _, none⟩) (v := .pointer (some ⟨G.g, 2, none⟩)) rfl hHeld ?_
 refine TkK (i := 6) (oi := ⟨some 213, Op.call { callee := Callee.builtin Builtin.max, args := #[Operand.const (Value.int IntKind.i64 (-1)), Operand.tmp 212], argTypes := #[3, 3] }, 3, _, _, none⟩) (v := .int .i64 (max (-1) on)) rfl hHeld ?_
 refine TkK (i := 3) (oi := ⟨some 210, Op.load 27 (Operand.tmp 209), 27, _, _, none⟩) (v := .pointer (some ⟨G.x, 0, none⟩)) rfl hHeld ?_
 refine TkK (i := 7) (oi := ⟨some 214, Op.nilCheck (Operand.tmp 210), 0, _, _, none⟩) (v := .pointer (some ⟨G.x, 0, none⟩)) rfl hHeld ?_
 refine TkK (i := 8) (oi := ⟨some 215, Op.fieldAddr 62 (Operand.tmp 214) 2, 0, _, _, none⟩) (v := .pointer (some ⟨G.x, 2, none⟩)) rfl hHeld ?_
 refine wpAnyH_ready (rs := [9]) (by kernel_rfl) (by simp) ?_
 refine AllReadyH.cons (o := ⟨none, Op.store 3 (Operand.tmp 215) (Operand.tmp 213), 0, _, _, none⟩) rfl (fun K hK => ?_) AllReadyH.nil
 rw [if_pos (by rfl)]
 have cl : w1d.cell? ⟨G.x, 2, none⟩ = some (.int .i64 D.fuse) := G1d.out.ref.blk.c 2 rfl
 have f_o : w1d.frozen? ⟨G.x, 2, none⟩ = false := G1d.out.ref.blk.frozen 2
 refine wp_cellS (w1d.setCell ⟨G.x, 2, none⟩ (.int .i64 (max (-1) on))) (by go_simp) ?_
 clear cl f_o
 have k1 : RDAt (w1d.setCell ⟨G.x, 2, none⟩ (.int .i64 (max (-1) on))) G.x G.vr G.va G.cr G.ms { D with fuse := max (-1) on } := G1d.out.ref.put rfl rfl rfl
 have k2 : Grown w1d (w1d.setCell ⟨G.x, 2, none⟩ (.int .i64 (max (-1) on))) (RdW G.x G.vr G.va) := Grown.setCell w1d G.x 2 _ fun _ => .inl rfl
 have G2 := Keep.mk (G1d.out.doc k1 k2 fun k h => .inl h)
 have N2 := Keep.mk (N1d.out.trans (GvN.doc (vr' := G.vr) (va' := G.va) (cr' := G.cr) (ms' := G.ms) k2 fun k h => .inl h))
 have H2 := Keep.mk (k2.blk H1d.out fun e => Lq.out q (HU.out q (.inr (.inr (.inr (.inr (.inl (.inl e))))))) rfl)
 clear k1 k2
 generalize (w1d.setCell ⟨G.x, 2, none⟩ (.int .i64 (max (-1) on))) = w2 at *
 refine hK _ _ (dos_of G2.out.c0 G2.out.c1 G2.out.c2 H2.out) fun hH2 => ?_
 clear hK
 simp only [Act.put, pqA, pqB, pqC]
 refine wpAnyH_done (by kernel_rfl) ?_ _
 refine hK12 _ _ ?_
 refine wp_seq_k fun K13 hK13 => rgn ?_
 refine VbT ?_
 refine WL.nil (hK13 _ _ ?_)
 refine wp_ret ?_
 go_ret
 exact ⟨rfl, _, G2.out, N2.out⟩
theorem ints_gr {w w' : World} {v : Value} {l : List Int} {S : Nat → Prop} (h : IntsAt w v l) (hg : Grown w w' S) (hs : l ≠ [] → ∀ k, v.ownBlock = some k → ¬ S k) : IntsAt w' v l := by
 by_cases e : l = []
 ·subst e
  rcases h with h | ⟨q, o, c, h1, _⟩
  ·exact .inl h
  ·exact .inl ⟨_, _, h1, rfl⟩
 ·exact h.grown hg (hs e)
set_option maxRecDepth 8000 in
set_option maxHeartbeats 8000000 in
theorem do_crash (G : GV) (D : DV) (u a oa on : Int) (nm : ByteArray) (vb vk : Value) (l kp : List Int) (w : World) (hG : GvAt w G D D) (hO : DOk D u a) (hu : u ≤ 1000000000000) (ha : a ≤ 100000000000) (hl : l.length ≤ 1000000000000) (hn : nm.size ≤ 1000000000000000) (hR : RowAt w vb l) (hRb : l ≠ [] → ∀ k, vb.ownBlock = some k → ¬ G.U k) (hKp : IntsAt w vk kp) (hKb : kp ≠ [] → ∀ k, vk.ownBlock = some k → ¬ G.U k) :
  Calls Tryz.prog 11 #[ptr G.g, .agg (opA ⟨9, oa, on, nm, vb, vk⟩)] w fun e w' => e = .returned (.bool true) ∧ ∃ G', GvAt w' G' (D.crash kp) (D.crash kp) ∧ GvN w w' G G' := by
 obtain ⟨ba, bc, rfl⟩ := row_form hR
 obtain ⟨ka, kc, rfl⟩ := hKp.form
 have HG := Keep.mk hG
 have HO := Keep.mk hO
 have Hu := Keep.mk hu
 have Ha := Keep.mk ha
 have Hl := Keep.mk hl
 have Hn := Keep.mk hn
 have HR := Keep.mk hR
 have HRb := Keep.mk hRb
 have HKp := Keep.mk hKp
 have HKb := Keep.mk hKb
 clear hG hO hu ha hl hn hR hRb hKp hKb
 go_enter Tryz.func11, Tryz.ntmps11
 refine wp_seq_k fun K1 hK1 => rgn ?_
 refine WL.box (by kernel_rfl) 43 (.tmp 1) rfl (opA (⟨9, oa, on, nm, .slice ba l.length bc, .slice ka kp.length kc⟩ : OX)) rfl ?_
 have HB := Keep.mk (Blk.new w 43 (opA (⟨9, oa, on, nm, .slice ba l.length bc, .slice ka kp.length kc⟩ : OX)))
 have B0 := Keep.mk (below_new w (.cells (opA (⟨9, oa, on, nm, .slice ba l.length bc, .slice ka kp.length kc⟩ : OX)) 43))
 change WL _ _ _ _ _ (w.alloc (.cells (opA (⟨9, oa, on, nm, .slice ba l.length bc, .slice ka kp.length kc⟩ : OX)) 43))
 generalize w.alloc (.cells (opA (⟨9, oa, on, nm, .slice ba l.length bc, .slice ka kp.length kc⟩ : OX)) 43) = w0 at *
 obtain ⟨q, hq⟩ : ∃ z, Keep (z = w.heap.size) := ⟨_, ⟨rfl⟩⟩
 rw [← hq.out] at HB ⊢
 have Lq : Keep (∀ k, k < w.heap.size → k ≠ q) := ⟨fun k hk => by rw [hq.out]; omega⟩
 have HU : Keep (∀ k, G.U k → k < w.heap.size) := ⟨fun k hk => HG.out.uLt hk⟩
 have G0 := Keep.mk (HG.out.below B0.out)
 have N0 : Keep (GvN w w0 G G) := ⟨GvN.blw G B0.out⟩
 have HR0 := Keep.mk (HR.out.below B0.out)
 have HK0 := Keep.mk (HKp.out.below B0.out)
 clear HG hq
 have q0 := HB.out.c 0 (by rfl : (opA (⟨9, oa, on, nm, .slice ba l.length bc, .slice ka kp.length kc⟩ : OX))[0]? = some (.int .i64 9))
 simp only [Act.put, pqA, pqB, pqC]
 refine VbF ?_
 refine WL.nil (hK1 _ _ ?_)
 refine wp_seq_k fun K2 hK2 => ?_
 refine wp_seq_k fun K3 hK3 => rgn ?_
 refine VlS (.pointer (some ⟨q, 0, none⟩)) ?_
 refine VlS (.int .i64 9) ?_
 refine WL.nil (hK3 _ _ ?_)
 refine wp_block ?_
 refine wp_seq_k fun K4 hK4 => rgn ?_
 refine VbF ?_
 refine VbF ?_
 refine WL.nil (hK4 _ _ ?_)
 refine wp_cond_false rfl ?_
 refine wp_seq_k fun K5 hK5 => rgn ?_
 refine VbF ?_
 refine VbF ?_
 refine WL.nil (hK5 _ _ ?_)
 refine wp_cond_false rfl ?_
 refine wp_seq_k fun K6 hK6 => rgn ?_
 refine VbF ?_
 refine VbF ?_
 refine WL.nil (hK6 _ _ ?_)
 refine wp_cond_false rfl ?_
 refine wp_seq_k fun K7 hK7 => rgn ?_
 refine VbF ?_
 refine VbF ?_
 refine WL.nil (hK7 _ _ ?_)
 refine wp_cond_false rfl ?_
 refine wp_seq_k fun K8 hK8 => rgn ?_
 refine VbF ?_
 refine VbF ?_
 refine WL.nil (hK8 _ _ ?_)
 refine wp_cond_false rfl ?_
 refine wp_seq_k fun K9 hK9 => rgn ?_
 refine VbF ?_
 refine VbF ?_
 refine WL.nil (hK9 _ _ ?_)
 refine wp_cond_false rfl ?_
 refine wp_seq_k fun K10 hK10 => rgn ?_
 refine VbF ?_
 refine VbF ?_
 refine WL.nil (hK10 _ _ ?_)
 refine wp_cond_false rfl ?_
 refine wp_seq_k fun K11 hK11 => rgn ?_
 refine VbT ?_
 refine VbT ?_
 refine WL.nil (hK11 _ _ ?_)
 refine wp_cond_true rfl ?_
 refine wp_seq_k fun K12 hK12 => ?_
 clear q0
 have G0d := Keep.mk G0.out.drew
 have N0d : Keep (GvN w w0.drew G _) := ⟨N0.out.trans (GvN.blw _ (Below.refl _ _).drew)⟩
 have HBd : Keep (Blk w0.drew q 43 (opA (⟨9, oa, on, nm, .slice ba l.length bc, .slice ka kp.length kc⟩ : OX))) := ⟨HB.out⟩
 have HK1 : Keep (IntsAt w0.drew (.slice ka kp.length kc) kp) := ⟨HK0.out.grown (Grown.refl w0 (fun _ => False)).drew fun _ _ h => h⟩
 refine wp_region_held_drew (S := DoS G.g G.d G.h G.x q oa on nm (.slice ba l.length bc) (.slice ka kp.length kc)) (by kernel_rfl) (dos_of G0d.out.c0 G0d.out.c1 G0d.out.c2 HBd.out) (fun hHeld => ?_)
 generalize w0.drew = w0d at *
 refine TkK (i := 0) (oi := ⟨some 218, Op.move (Operand.tmp 0), 26, _, _, none⟩) (v := .pointer (some ⟨G.g, 0, none⟩)) rfl hHeld ?_
 refine TkK (i := 4) (oi := ⟨some 222, Op.fieldAddr 43 (Operand.tmp 3) 5, 0, _, _, none⟩) (v := .pointer (some ⟨q, 5, none⟩)) rfl hHeld ?_
 refine TkK (i := 1) (oi := ⟨some 219, Op.nilCheck (Operand.tmp 218), 0, _, _, none⟩) (v := .pointer (some ⟨G.g, 0, none⟩)) rfl hHeld ?_
 refine TkK (i := 5) (oi := ⟨some 223, Op.load 41 (Operand.tmp 222), 41, _, _, none⟩) (v := .slice ka kp.length kc) rfl hHeld ?_
 refine TkK (i := 2) (oi := ⟨some 220, Op.fieldAddr 35 (Operand.tmp 219) 1, 0, _, _, none⟩) (v := .pointer (some ⟨G.g, 1, none⟩)) rfl hHeld ?_
 refine TkK (i := 3) (oi := ⟨some 221, Op.load 30 (Operand.tmp 220), 30, _, _, none⟩) (v := .pointer (some ⟨G.h, 0, none⟩)) rfl hHeld ?_
 refine wpAnyH_ready (rs := [6]) (by kernel_rfl) (by simp) ?_
 refine AllReadyH.cons (o := ⟨some 224, Op.call { callee := Callee.value (Operand.func 42), args := #[Operand.tmp 221, Operand.tmp 223], argTypes := #[30, 41] }, 0, _, _, none⟩) rfl (fun K hK => ?_) AllReadyH.nil
 rw [if_pos (by rfl)]
 refine wp_callF 42 _ _ rfl Tryz.in42 #[.pointer (some ⟨G.h, 0, none⟩), .slice ka kp.length kc] (by simp [Act.eval]) (fun vz wz => vz = .tuple #[] ∧ ∃ cs', DskAt wz G.p G.vf cs' (D.crash kp) ∧ (Grown w0d wz fun k => k = G.p ∨ G.vf.ownBlock = some k) ∧ ∀ k, DskS G.p G.vf cs' k → DskS G.p G.vf G.cs k ∨ w0d.heap.size ≤ k) ?_ ?_
 ·refine (crash_any G.h G.p (.slice ka kp.length kc) G.vf kp G.cs D w0d G0d.out.hd G0d.out.dsk HK1.out (fun hn k hk => ⟨fun e => HKb.out hn k hk (.inr (.inr (.inr (.inl (.inl e))))), fun e => HKb.out hn k hk (.inr (.inr (.inr (.inl (.inr (.inl e))))))⟩) (by rw [G0d.out.dsk.fcs.len]; have := HO.out.lay.len; omega) (fun f hf => by have h := usd_mem_le hf; have h1 := HO.out.lay.sf f hf; have := HO.out.us; have := Hu.out; omega) (by have := HO.out.us; have := Hu.out; omega)).mono ?_
  rintro e wz ⟨rfl, cs', k1, k2, k3⟩
  exact ⟨_, rfl, rfl, cs', k1, k2, k3⟩
 rintro vz w1 ⟨rfl, cs1, k1, k2, k3⟩
 have k4 : Grown w0d w1 G.P := k2.mono fun k _ e => e.elim .inl fun e => .inr (.inl e)
 have G1 := Keep.mk (G0d.out.prog k1 k4 k3)
 have N1 := Keep.mk (N0d.out.trans (GvN.prog k4 k3))
 have H1 := Keep.mk (k4.blk HBd.out fun e => Lq.out q (HU.out q (.inr (.inr (.inr (.inl e))))) rfl)
 have HK2 : Keep (IntsAt w1 (.slice ka kp.length kc) kp) := ⟨ints_gr HK1.out k4 fun hn k hk e => HKb.out hn k hk (.inr (.inr (.inr (.inl e))))⟩
 clear k1 k2 k3 k4
 refine hK _ _ (dos_of G1.out.c0 G1.out.c1 G1.out.c2 H1.out) fun hH1 => ?_
 clear hK
 simp only [Act.put, pqA, pqB, pqC]
 refine wpAnyH_done (by kernel_rfl) ?_ _
 refine hK12 _ _ ?_
 refine wp_seq_k fun K13 hK13 => ?_
 have G1d := Keep.mk G1.out.drew
 have N1d : Keep (GvN w w1.drew G _) := ⟨N1.out.trans (GvN.blw _ (Below.refl _ _).drew)⟩
 have H1d : Keep (Blk w1.drew q 43 (opA (⟨9, oa, on, nm, .slice ba l.length bc, .slice ka kp.length kc⟩ : OX))) := ⟨H1.out⟩
 have HK3 : Keep (IntsAt w1.drew (.slice ka kp.length kc) kp) := ⟨HK2.out.grown (Grown.refl w1 (fun _ => False)).drew fun _ _ h => h⟩
 refine wp_region_held_drew (S := DoS G.g G.d G.h G.x q oa on nm (.slice ba l.length bc) (.slice ka kp.length kc)) (by kernel_rfl) (dos_of G1d.out.c0 G1d.out.c1 G1d.out.c2 H1d.out) (fun hHeld => ?_)
 generalize w1.drew = w1d at *
 refine TkK (i := 0) (oi := ⟨some 225, Op.move (Operand.tmp 0), 26, _, _, none⟩) (v := .pointer (some ⟨G.g, 0, none⟩)) rfl hHeld ?_
 refine TkK (i := 4) (oi := ⟨some 229, Op.fieldAddr 43 (Operand.tmp 3) 5, 0, _, _, none⟩) (v := .pointer (some ⟨q, 5, none⟩)) rfl hHeld ?_
 refine TkK (i := 1) (oi := ⟨some 226, Op.nilCheck (Operand.tmp 225), 0, _, _, none⟩) (v := .pointer (some ⟨G.g, 0, none⟩)) rfl hHeld ?_
 refine TkK (i := 5) (oi := ⟨some 230, Op.load 41 (Operand.tmp 229), 41, _, _, none⟩) (v := .slice ka kp.length kc) rfl hHeld ?_
 refine TkK (i := 2) (oi := ⟨some 227, Op.fieldAddr 35 (Operand.tmp 226) 2, 0, _, _, none⟩) (v := .pointer (some ⟨G.g, 2, none⟩)) rfl hHeld ?_
 refine TkK (i := 3) (oi := ⟨some 228, Op.load 27 (Operand.tmp 227), 27, _, _, none⟩) (v := .pointer (some ⟨G.x, 0, none⟩)) rfl hHeld ?_
 refine wpAnyH_ready (rs := [6]) (by kernel_rfl) (by simp) ?_
 refine AllReadyH.cons (o := ⟨some 231, Op.call { callee := Callee.value (Operand.func 43), args := #[Operand.tmp 228, Operand.tmp 230], argTypes := #[27, 41] }, 0, _, _, none⟩) rfl (fun K hK => ?_) AllReadyH.nil
 rw [if_pos (by rfl)]
 refine wp_callF 43 _ _ rfl Tryz.in43 #[.pointer (some ⟨G.x, 0, none⟩), .slice ka kp.length kc] (by simp [Act.eval]) (fun vz wz => vz = .tuple #[] ∧ ∃ cr', RDAt wz G.x G.vr G.va cr' G.ms (D.crash kp) ∧ Grown w1d wz (RdW G.x G.vr G.va) ∧ ∀ k, RdS G.x G.vr G.va cr' k → G.R k ∨ w1d.heap.size ≤ k) ?_ ?_
 ·refine (rcrash_any G.x (.slice ka kp.length kc) G.vr G.va kp G.cr G.ms D w1d G1d.out.ref HK3.out (fun hn k hk e => HKb.out hn k hk (.inr (.inr (.inr (.inr (.inl (.inl e))))))) (by rw [G1d.out.ref.rcs.len]; exact HO.out.lay.len) (fun f hf => by have h := usd_mem_le hf; have h1 := HO.out.lay.sf f hf; have := HO.out.us; have := Hu.out; omega)).mono ?_
  rintro e wz ⟨rfl, cs', k1, k2, k3⟩
  exact ⟨_, rfl, rfl, cs', k1, k2, k3⟩
 rintro vz w2 ⟨rfl, cr2, k1, k2, k3⟩
 have G2 := Keep.mk (G1d.out.doc k1 k2 k3)
 have N2 := Keep.mk (N1d.out.trans (GvN.doc (ms' := G.ms) k2 k3))
 have H2 := Keep.mk (k2.blk H1d.out fun e => Lq.out q (HU.out q (.inr (.inr (.inr (.inr (.inl (.inl e))))))) rfl)
 clear k1 k2 k3
 refine hK _ _ (dos_of G2.out.c0 G2.out.c1 G2.out.c2 H2.out) fun hH2 => ?_
 clear hK
 simp only [Act.put, pqA, pqB, pqC]
 refine wpAnyH_done (by kernel_rfl) ?_ _
 refine hK13 _ _ ?_
 refine wp_seq_k fun K14 hK14 => rgn ?_
 refine VbT ?_
 refine WL.nil (hK14 _ _ ?_)
 refine wp_ret ?_
 go_ret
 exact ⟨rfl, _, G2.out, N2.out⟩
set_option maxRecDepth 8000 in
set_option maxHeartbeats 8000000 in
theorem do_names (G : GV) (D : DV) (u a oa on : Int) (nm : ByteArray) (vb vk : Value) (l kp : List Int) (w : World) (hG : GvAt w G D D) (hO : DOk D u a) (hu : u ≤ 1000000000000) (ha : a ≤ 100000000000) (hl : l.length ≤ 1000000000000) (hn : nm.size ≤ 1000000000000000) (hR : RowAt w vb l) (hRb : l ≠ [] → ∀ k, vb.ownBlock = some k → ¬ G.U k) (hKp : IntsAt w vk kp) (hKb : kp ≠ [] → ∀ k, vk.ownBlock = some k → ¬ G.U k) (kd : Int) (h1 : ¬ kd = 1) (h2 : ¬ kd = 2) (h3 : ¬ kd = 3) (h4 : ¬ kd = 4) (h5 : ¬ kd = 5) (h6 : ¬ kd = 6) (h8 : ¬ kd = 8) (h9 : ¬ kd = 9) :
  Calls Tryz.prog 11 #[ptr G.g, .agg (opA ⟨kd, oa, on, nm, vb, vk⟩)] w fun e w' => e = .returned (.bool true) ∧ ∃ G', GvAt w' G' (D) (D) ∧ GvN w w' G G' := by
 obtain ⟨ba, bc, rfl⟩ := row_form hR
 obtain ⟨ka, kc, rfl⟩ := hKp.form
 have HG := Keep.mk hG
 have HO := Keep.mk hO
 have Hu := Keep.mk hu
 have Ha := Keep.mk ha
 have Hl := Keep.mk hl
 have Hn := Keep.mk hn
 have HR := Keep.mk hR
 have HRb := Keep.mk hRb
 have HKp := Keep.mk hKp
 have HKb := Keep.mk hKb
 clear hG hO hu ha hl hn hR hRb hKp hKb
 go_enter Tryz.func11, Tryz.ntmps11
 refine wp_seq_k fun K1 hK1 => rgn ?_
 refine WL.box (by kernel_rfl) 43 (.tmp 1) rfl (opA (⟨kd, oa, on, nm, .slice ba l.length bc, .slice ka kp.length kc⟩ : OX)) rfl ?_
 have HB := Keep.mk (Blk.new w 43 (opA (⟨kd, oa, on, nm, .slice ba l.length bc, .slice ka kp.length kc⟩ : OX)))
 have B0 := Keep.mk (below_new w (.cells (opA (⟨kd, oa, on, nm, .slice ba l.length bc, .slice ka kp.length kc⟩ : OX)) 43))
 change WL _ _ _ _ _ (w.alloc (.cells (opA (⟨kd, oa, on, nm, .slice ba l.length bc, .slice ka kp.length kc⟩ : OX)) 43))
 generalize w.alloc (.cells (opA (⟨kd, oa, on, nm, .slice ba l.length bc, .slice ka kp.length kc⟩ : OX)) 43) = w0 at *
 obtain ⟨q, hq⟩ : ∃ z, Keep (z = w.heap.size) := ⟨_, ⟨rfl⟩⟩
 rw [← hq.out] at HB ⊢
 have Lq : Keep (∀ k, k < w.heap.size → k ≠ q) := ⟨fun k hk => by rw [hq.out]; omega⟩
 have HU : Keep (∀ k, G.U k → k < w.heap.size) := ⟨fun k hk => HG.out.uLt hk⟩
 have G0 := Keep.mk (HG.out.below B0.out)
 have N0 : Keep (GvN w w0 G G) := ⟨GvN.blw G B0.out⟩
 have HR0 := Keep.mk (HR.out.below B0.out)
 have HK0 := Keep.mk (HKp.out.below B0.out)
 clear HG hq
 have q0 := HB.out.c 0 (by rfl : (opA (⟨kd, oa, on, nm, .slice ba l.length bc, .slice ka kp.length kc⟩ : OX))[0]? = some (.int .i64 kd))
 simp only [Act.put, pqA, pqB, pqC]
 refine VbF ?_
 refine WL.nil (hK1 _ _ ?_)
 refine wp_seq_k fun K2 hK2 => ?_
 refine wp_seq_k fun K3 hK3 => rgn ?_
 refine VlS (.pointer (some ⟨q, 0, none⟩)) ?_
 refine VlS (.int .i64 kd) ?_
 refine WL.nil (hK3 _ _ ?_)
 refine wp_block ?_
 refine wp_seq_k fun K4 hK4 => rgn ?_
 refine VbF ?_
 refine VbF ?_
 refine WL.nil (hK4 _ _ ?_)
 refine wp_cond_false rfl ?_
 refine wp_seq_k fun K5 hK5 => rgn ?_
 refine VbF ?_
 refine VbF ?_
 refine WL.nil (hK5 _ _ ?_)
 refine wp_cond_false rfl ?_
 refine wp_seq_k fun K6 hK6 => rgn ?_
 refine VbF ?_
 refine VbF ?_
 refine WL.nil (hK6 _ _ ?_)
 refine wp_cond_false rfl ?_
 refine wp_seq_k fun K7 hK7 => rgn ?_
 refine VbF ?_
 refine VbF ?_
 refine WL.nil (hK7 _ _ ?_)
 refine wp_cond_false rfl ?_
 refine wp_seq_k fun K8 hK8 => rgn ?_
 refine VbF ?_
 refine VbF ?_
 refine WL.nil (hK8 _ _ ?_)
 refine wp_cond_false rfl ?_
 refine wp_seq_k fun K9 hK9 => rgn ?_
 refine VbF ?_
 refine VbF ?_
 refine WL.nil (hK9 _ _ ?_)
 refine wp_cond_false rfl ?_
 refine wp_seq_k fun K10 hK10 => rgn ?_
 refine VbF ?_
 refine VbF ?_
 refine WL.nil (hK10 _ _ ?_)
 refine wp_cond_false rfl ?_
 refine wp_seq_k fun K11 hK11 => rgn ?_
 refine VbF ?_
 refine VbF ?_
 refine WL.nil (hK11 _ _ ?_)
 refine wp_cond_false rfl ?_
 refine wp_skip ?_
 refine hK2 _ _ ?_
 refine wp_seq_k fun K12 hK12 => ?_
 clear q0
 have g0 := G0.out.c0
 refine rgn ?_
 refine VlS (.pointer (some ⟨G.g, 0, none⟩)) ?_
 refine VlS (.pointer (some ⟨G.g, 0, none⟩)) ?_
 refine VlS (.pointer (some ⟨G.g, 0, none⟩)) ?_
 refine VlS (.pointer (some ⟨G.d, 0, none⟩)) ?_
 clear g0
 refine WL.callF (by kernel_rfl) 44 _ _ rfl Tryz.in44 #[.pointer (some ⟨G.d, 0, none⟩)] (by simp [Act.eval]) ?_
 refine (pnames_any G.d G.p G.vf G.cs D u a w0 G0.out.dk G0.out.dsk HO.out Hu.out Ha.out).mono ?_
 rintro e w1 ⟨v1, rfl, k1, k2, k3⟩
 refine ⟨_, rfl, ?_⟩
 have G1 := Keep.mk (G0.out.below k3)
 have N1 : Keep (GvN w w1 G G) := ⟨N0.out.trans (GvN.blw G k3)⟩
 have O1 := Keep.mk k1
 clear k1 k2 k3
 have g2 := G1.out.c2
 simp only [Act.put, pqA, pqB, pqC]
 refine VlS (.tuple #[v1, .int .i64 (if D.out = true then 7 else 0)]) ?_
 refine VlS (v1) ?_
 refine VlS (.int .i64 (if D.out = true then 7 else 0)) ?_
 refine VlS (v1) ?_
 refine VlS (.int .i64 (if D.out = true then 7 else 0)) ?_
 refine WL.nil (hK12 _ _ ?_)
 refine wp_seq_k fun K13 hK13 => rgn ?_
 refine VlS (.pointer (some ⟨G.g, 0, none⟩)) ?_
 refine VlS (.pointer (some ⟨G.g, 0, none⟩)) ?_
 refine VlS (.pointer (some ⟨G.g, 2, none⟩)) ?_
 refine VlS (.pointer (some ⟨G.x, 0, none⟩)) ?_
 clear g2
 refine WL.callF (by kernel_rfl) 45 _ _ rfl Tryz.in45 #[.pointer (some ⟨G.x, 0, none⟩)] (by simp [Act.eval]) ?_
 refine (rnames_any G.x G.vr G.va G.cr G.ms D w1 G1.out.ref (by rw [G1.out.ref.rcs.len]; exact HO.out.lay.len)).mono ?_
 rintro e w2 ⟨v2, rfl, k1, k2, k3⟩
 refine ⟨_, rfl, ?_⟩
 have G2 := Keep.mk (G1.out.below k3)
 have N2 : Keep (GvN w w2 G G) := ⟨N1.out.trans (GvN.blw G k3)⟩
 have O2 := Keep.mk k1
 have O1b := Keep.mk (O1.out.below k3)
 clear k1 k2 k3
 simp only [Act.put, pqA, pqB, pqC]
 refine VlS (.tuple #[v2, .int .i64 (if D.out = true then 7 else 0)]) ?_
 refine VlS (v2) ?_
 refine VlS (.int .i64 (if D.out = true then 7 else 0)) ?_
 refine VlS (v2) ?_
 refine VlS (.int .i64 (if D.out = true then 7 else 0)) ?_
 refine WL.nil (hK13 _ _ ?_)
 refine wp_seq_k fun K14 hK14 => rgn ?_
 refine VlS (.int .i64 (if D.out = true then 7 else 0)) ?_
 refine VlS (.int .i64 (if D.out = true then 7 else 0)) ?_
 refine VbT ?_
 refine VbT ?_
 refine VlS (v1) ?_
 refine VlS (v2) ?_
 refine WL.callF (by kernel_rfl) 46 _ _ rfl Tryz.in46 #[v1, v2] (by simp [Act.eval]) ?_
 refine (eqTexts_refl v1 v2 (if D.out = true then [] else D.fs.map PF.nm) w2 O1b.out O2.out (by have := HO.out.lay.len; split <;> simp; omega)).mono ?_
 rintro e w3 ⟨rfl, k3⟩
 refine ⟨_, rfl, ?_⟩
 have G3 := Keep.mk (G2.out.below k3)
 have N3 : Keep (GvN w w3 G G) := ⟨N2.out.trans (GvN.blw G k3)⟩
 clear k3
 simp only [Act.put, pqA, pqB, pqC]
 refine VbT ?_
 refine VbT ?_
 refine WL.nil (hK14 _ _ ?_)
 refine wp_ret ?_
 go_ret
 exact ⟨rfl, _, G3.out, N3.out⟩
end Go.Proofs.YteijjfeainamdaaGreatDoor
