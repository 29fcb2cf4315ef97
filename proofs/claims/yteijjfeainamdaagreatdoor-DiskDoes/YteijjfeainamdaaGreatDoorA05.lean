import Derived.Test.YteijjfeainamdaaGreatDoorA04
import Derived.Deep.RegionHeld3
import Derived.Lib.Small
import Derived.Maps.AppendAt
import Derived.Lib.Strings
namespace Go.Proofs.YteijjfeainamdaaGreatDoor
open Go.RowKit
set_option linter.unusedSimpArgs false
set_option linter.unusedVariables false

def PF.cut (f : PF) (m : Nat) : PF := { f with bs := f.bs.take m, sf := min f.sf (m : Int) }
def DV.cut (D : DV) (i : Nat) (f : PF) (m : Nat) : DV := { D with fs := D.fs.set i (f.cut m), used := D.used - ((f.bs.length : Int) - (m : Int)) }
theorem own_fc {w : World} {g n c i : Nat} {cs : List FC} {x : FC} (h : OwnF w (.slice (some ⟨g, 0, none⟩) n c) cs) (hx : cs[i]? = some x) : w.cell? ⟨g, i * 3 + 1, none⟩ = some x.b ∧ w.cell? ⟨g, i * 3 + 2, none⟩ = some (.int .i64 x.sf) := by
 obtain ⟨g_, e, hr⟩ := h.at hx
 injection e with e
 injection e with e
 subst e
 exact ⟨hr 1 _ rfl, hr 2 _ rfl⟩
theorem dsk_newb {w w9 : World} {p g n7 k7 i : Nat} {cs : List FC} {D : DV} {x : FC} {f : PF} {l : List Int} {v9 : Value} (h : DskAt w p (.slice (some ⟨g, 0, none⟩) n7 k7) cs D) (hx : cs[i]? = some x) (hf : D.fs[i]? = some f) (hb : Below w.heap.size w w9) (ho : Own w9 v9 l) (hn : ∀ k, v9.ownBlock = some k → w.heap.size ≤ k) :
  DskAt (w9.setCell ⟨g, i * 3 + 1, none⟩ v9) p (.slice (some ⟨g, 0, none⟩) n7 k7) (cs.set i { x with b := v9 }) { D with fs := D.fs.set i { f with bs := l } } := by
 have h9 := h.below hb
 have hxf := h9.fcs.each i x f hx hf
 have hg : Grown w9 (w9.setCell ⟨g, i * 3 + 1, none⟩ v9) fun k => k = g := Grown.setCell w9 g _ _ fun _ => rfl
 have ht : Typ w9 g 49 := h9.own.typ rfl
 have hl : i < cs.length := (List.getElem?_eq_some_iff.1 hx).1
 refine ⟨hg.blk h9.blk fun e => ?_, h9.own.set hx (by omega) rfl, ?_⟩
 ·subst e; have := ht.one h9.blk.typ; revert this; decide
 ·refine h9.fcs.set hl ⟨hxf.1, hxf.2.1, ?_⟩ (fun j y z hj hy hz => (h9.fcs.each j y z hy hz).grown hg fun k hk e => ?_) (fun j y k hj hy hk hyk => ?_)
  ·exact ho.grown hg fun k hk e => by subst e; have := (ho.typ hk).one ht; revert this; decide
  ·subst e; have := hk.one ht; revert this; decide
  ·have hjl := (List.getElem?_eq_some_iff.1 hy).1
   rw [h.fcs.len] at hjl
   have h2 := (h.fcs.each j y _ hy (List.getElem?_eq_getElem hjl)).2.2.lt k hyk
   have := hn k hk
   omega
theorem dsk_sf {w : World} {p g n7 k7 i : Nat} {cs : List FC} {D : DV} {x : FC} {f : PF} {z : Int} (h : DskAt w p (.slice (some ⟨g, 0, none⟩) n7 k7) cs D) (hx : cs[i]? = some x) (hf : D.fs[i]? = some f) : DskAt (w.setCell ⟨g, i * 3 + 2, none⟩ (.int .i64 z)) p (.slice (some ⟨g, 0, none⟩) n7 k7) (cs.set i { x with sf := z }) { D with fs := D.fs.set i { f with sf := z } } := by
 have hxf := h.fcs.each i x f hx hf
 have hg : Grown w (w.setCell ⟨g, i * 3 + 2, none⟩ (.int .i64 z)) fun k => k = g := Grown.setCell w g _ _ fun _ => rfl
 have ht : Typ w g 49 := h.own.typ rfl
 have hl : i < cs.length := (List.getElem?_eq_some_iff.1 hx).1
 have h5 : ∀ k, Typ w k 5 → ¬ k = g := fun k hk e => by subst e; have := hk.one ht; revert this; decide
 refine ⟨hg.blk h.blk fun e => ?_, h.own.set hx (by omega) rfl, ?_⟩
 ·subst e; have := ht.one h.blk.typ; revert this; decide
 ·refine h.fcs.set hl ⟨hxf.1, rfl, hxf.2.2.grown hg fun k hk => h5 k (hxf.2.2.typ hk)⟩ (fun j y z hj hy hz => (h.fcs.each j y z hy hz).grown hg h5) (fun j y k hj hy hk hyk => h.fcs.apart j i y x hy hx hj k hyk hk)
theorem dsk_cut {w : World} {p g n7 k7 i m : Nat} {cs : List FC} {E : DV} {f : PF} {xn : ByteArray} {v9 : Value} {xs : Int} (h : DskAt w p (.slice (some ⟨g, 0, none⟩) n7 k7) (cs.set i ⟨xn, v9, xs⟩) { E with used := E.used - ((f.bs.length : Int) - (m : Int)), fs := E.fs.set i { f with bs := f.bs.take m } }) (hx : i < cs.length) (hf : i < E.fs.length) (hs : f.sf = xs) :
  DskAt (w.setCell ⟨g, i * 3 + 2, none⟩ (.int .i64 (min xs (m : Int)))) p (.slice (some ⟨g, 0, none⟩) n7 k7) (cs.set i ⟨xn, v9, min xs (m : Int)⟩) (E.cut i f m) := by
 have h2 := dsk_sf (z := min xs (m : Int)) h (List.getElem?_set_self hx) (List.getElem?_set_self hf)
 rw [List.set_set] at h2
 unfold DV.cut PF.cut
 rw [hs]
 simp only [List.set_set] at h2
 exact h2
theorem wp_bsj {P : Program} {o : Oper} {a : Act} {w : World} {K : Act → World → Prop} {Q : Exit → Act → World → Prop} (t : TypeId) (n : Nat) (parts : Array (Nat × Operand)) (ho : o.op = .buildSlice t n parts)
  (vs : Array (Nat × Value)) (hv : parts.map (fun x => (x.1, a.eval x.2)) = vs) (v : Value) (w' : World) (hrun : (Instr.buildSlice t n vs).run P w = .ok v w') (h : K (a.put o.dst v) w') : o.wp P a w K Q := by
 unfold Oper.wp execOp
 simp only [ho, hv, Sem.run_bind, hrun, Result.andThen_ok, Sem.run_pure]
 exact h
theorem dskS_newb {B p : Nat} {vf : Value} {cs : List FC} {i : Nat} {x : FC} {v9 : Value} {z : Int} (hx : cs[i]? = some x) (hn : ∀ k, v9.ownBlock = some k → B ≤ k) : ∀ k, DskS p vf (cs.set i ⟨x.nm, v9, z⟩) k → DskS p vf cs k ∨ B ≤ k := by
 rintro k (h | h | ⟨j, y, hy, hk⟩)
 ·exact .inl (.inl h)
 ·exact .inl (.inr (.inl h))
 ·by_cases e : i = j
  ·subst e
   rw [List.getElem?_set_self (List.getElem?_eq_some_iff.1 hx).1] at hy
   injection hy with hy
   subst hy
   exact .inr (hn k hk)
  ·rw [List.getElem?_set_ne e] at hy
   exact .inl (.inr (.inr ⟨j, y, hy, hk⟩))
set_option maxRecDepth 8000 in
set_option maxHeartbeats 2000000 in
theorem cut_is (d p i m : Nat) (n : ByteArray) (vf : Value) (cs : List FC) (D : DV) (f : PF) (w : World) (hDk : Blk w d 67 #[ptr p]) (hD : DskAt w p vf cs D) (hO : D.out = false) (hF : fnd n D.fs 0 = (i, true)) (hFi : D.fs[i]? = some f) (hL : cs.length ≤ 256) (hM : m ≤ f.bs.length) (hU : 0 ≤ D.used ∧ D.used ≤ 70368744177664 ∧ (f.bs.length : Int) ≤ D.used) (hA : 0 ≤ D.acts ∧ D.acts ≤ 4611686018427387904) (hFu : -9223372036854775808 < D.fuse ∧ D.fuse ≤ 9223372036854775807) :
  Calls Tryz.prog 32 #[ptr d, .string n, .int .i64 (m : Int)] w fun e w' => e = .returned (.int .i64 (pw D)) ∧ ∃ vf' cs', DskAt w' p vf' cs' (if D.fuse = 0 then D.act else D.act.cut i f m) ∧ (Grown w w' fun k => k = p ∨ vf.ownBlock = some k) ∧ ∀ k, DskS p vf' cs' k → DskS p vf cs k ∨ w.heap.size ≤ k := by
 obtain ⟨va, vc, rfl⟩ := hD.own.sl
 have HDk := Keep.mk hDk
 have HD := Keep.mk hD
 have HO := Keep.mk hO
 have HF := Keep.mk hF
 have HFi := Keep.mk hFi
 have HL := Keep.mk hL
 have HM := Keep.mk hM
 have HU := Keep.mk hU
 have HA := Keep.mk hA
 have HFu := Keep.mk hFu
 clear hDk hD hO hF hFi hL hM hU hA hFu
 go_enter Tryz.func32, Tryz.ntmps32
 have cd := HDk.out.c 0 (by rfl : (#[ptr p] : Array Value)[0]? = some (ptr p))
 have c4 : w.cell? ⟨p, 4, none⟩ = some (.bool false) := by have h := HD.out.blk.c 4 (by rfl : (stA (.slice va cs.length vc) D)[4]? = some (.bool D.out)); rw [HO.out] at h; exact h
 refine wp_seq_k fun K1 hK1 => rgn ?_
 refine VlS (.int .i64 0) ?_
 refine WL.nil (hK1 _ _ ?_)
 refine wp_seq_k fun K2 hK2 => rgn ?_
 refine VlS (.pointer (some ⟨d, 0, none⟩)) ?_
 refine VlS (.pointer (some ⟨d, 0, none⟩)) ?_
 refine VlS (.pointer (some ⟨d, 0, none⟩)) ?_
 refine VlS (.pointer (some ⟨p, 0, none⟩)) ?_
 refine VlS (.pointer (some ⟨p, 0, none⟩)) ?_
 refine WL.nil (hK2 _ _ ?_)
 refine wp_seq_k fun K3 hK3 => ?_
 refine wp_seq_k fun K4 hK4 => rgn ?_
 refine VlS (.pointer (some ⟨p, 0, none⟩)) ?_
 refine VlS (.pointer (some ⟨p, 0, none⟩)) ?_
 refine VlS (.pointer (some ⟨p, 4, none⟩)) ?_
 refine VbF ?_
 refine WL.nil (hK4 _ _ ?_)
 refine wp_cond_false rfl ?_
 refine wp_skip ?_
 refine hK3 _ _ ?_
 refine wp_seq_k fun K5 hK5 => rgn ?_
 refine VlS (.pointer (some ⟨p, 0, none⟩)) ?_
 refine VlS (.string n) ?_
 clear cd c4
 have hfd := find_any p n _ cs D w HD.out (by have := HL.out; omega)
 rw [HF.out] at hfd
 refine WL.callF (by kernel_rfl) 25 _ _ rfl Tryz.in25 #[ptr p, .string n] (by simp [Act.eval]) ?_
 refine (hfd).mono ?_
 rintro e w0 ⟨rfl, hb1⟩
 refine ⟨_, rfl, ?_⟩
 have B0 := Keep.mk hb1
 have HD1 := Keep.mk (HD.out.below hb1)
 clear hb1 hfd
 obtain ⟨f_, hf_⟩ : ∃ f, D.fs[i]? = some f := ⟨f, HFi.out⟩
 obtain rfl : f = f_ := Option.some.inj (HFi.out.symm.trans hf_)
 have hci : i < cs.length := by have h := HD1.out.fcs.len; have h2 := (List.getElem?_eq_some_iff.1 hf_).1; omega
 obtain ⟨x, hx⟩ : ∃ x, cs[i]? = some x := ⟨cs[i], List.getElem?_eq_getElem hci⟩
 obtain ⟨g, ha, hrg⟩ := HD1.out.own.at hx
 subst ha
 have hec := HD1.out.fcs.each i x f hx hf_
 obtain ⟨xn, xb, xs⟩ := x
 obtain ⟨xa, xc, hxb⟩ := row_form hec.2.2.row
 change xb = _ at hxb
 subst hxb
 have HXr : Keep (RowAt w0 (.slice xa f.bs.length xc) f.bs) := ⟨hec.2.2.row⟩
 have c1 : w0.cell? ⟨g, i * 3 + 1, none⟩ = some (.slice xa f.bs.length xc) := hrg 1 _ rfl
 have hilc : (i : Int) < (cs.length : Int) := by omega
 have p0 := HD1.out.blk.c 0 (by rfl : (stA (.slice (some ⟨g, 0, none⟩) cs.length vc) D)[0]? = some (.slice (some ⟨g, 0, none⟩) cs.length vc))
 have HX := Keep.mk hx
 have HXs : Keep (f.sf = xs) := ⟨hec.2.1.symm⟩
 clear hrg hec hx hf_ hci
 have hm0 : ¬ (m : Int) < 0 := by omega
 have hm1 : ¬ (f.bs.length : Int) < (m : Int) := by have := HM.out; omega
 have hgp : Keep (g ≠ p) := ⟨fun e => HD1.out.own.ne HD1.out.blk (by decide) (by rw [e]; rfl)⟩
 have HD0 := HD1
 simp only [Act.put, pqA, pqB, pqC]
 refine VlS (.tuple #[.int .i64 (i : Int), .bool true]) ?_
 refine VlS (.int .i64 (i : Int)) ?_
 refine VbT ?_
 refine VlS (.int .i64 (i : Int)) ?_
 refine VbT ?_
 refine WL.nil (hK5 _ _ ?_)
 refine wp_seq_k fun K6 hK6 => ?_
 refine wp_seq_k fun K7 hK7 => rgn ?_
 refine VbT ?_
 refine VbF ?_
 refine WL.nil (hK7 _ _ ?_)
 refine wp_cond_false rfl ?_
 refine wp_skip ?_
 refine hK6 _ _ ?_
 refine wp_seq_k fun K8 hK8 => ?_
 refine wp_seq_k fun K9 hK9 => rgn ?_
 refine VlS (.int .i64 (m : Int)) ?_
 refine VbF ?_
 refine VbF ?_
 refine VlS (.int .i64 (m : Int)) ?_
 refine VlS (.pointer (some ⟨p, 0, none⟩)) ?_
 refine VlS (.pointer (some ⟨p, 0, none⟩)) ?_
 refine VlS (.pointer (some ⟨p, 0, none⟩)) ?_
 refine VlS (.slice (some ⟨g, 0, none⟩) cs.length vc) ?_
 refine VlS (.int .i64 (i : Int)) ?_
 refine VlS (.pointer (some ⟨g, i * 3, none⟩)) ?_
 refine VlS (.pointer (some ⟨g, i * 3 + 1, none⟩)) ?_
 refine VlS (.slice xa f.bs.length xc) ?_
 refine VlS (.int .i64 (f.bs.length : Int)) ?_
 refine VbF ?_
 refine VbF ?_
 refine WL.nil (hK9 _ _ ?_)
 refine wp_cond_false rfl ?_
 refine wp_skip ?_
 refine hK8 _ _ ?_
 refine wp_seq_k fun K10 hK10 => ?_
 refine wp_seq_k fun K11 hK11 => rgn ?_
 refine VlS (.pointer (some ⟨p, 0, none⟩)) ?_
 have hac := act_any p _ _ _ w0 HD0.out HA.out ⟨HFu.out.1, HFu.out.2⟩
 refine WL.callF (by kernel_rfl) 50 _ _ rfl Tryz.in50 #[ptr p] (by simp [Act.eval]) ?_
 refine (hac).mono ?_
 rintro e wq ⟨rfl, h1, h2⟩
 refine ⟨_, rfl, ?_⟩
 have HDq := Keep.mk h1
 have G1 : Keep (Grown w wq fun k => k = p) := ⟨(Grown.below B0.out).trans h2⟩
 have Cq : Keep (wq.cell? ⟨g, i * 3 + 1, none⟩ = some (.slice xa f.bs.length xc) ∧ wq.cell? ⟨g, i * 3 + 2, none⟩ = some (.int .i64 xs)) := ⟨own_fc h1.own HX.out⟩
 clear h1 h2 hac HD0 HD1 c1 p0 HXr hm0 hm1
 simp only [Act.put, pqA, pqB, pqC]
 rcases Decidable.em (D.fuse = 0) with hfu | hfu
 ·rw [show decide (D.fuse = 0) = true from decide_eq_true hfu]
  refine WL.nil (hK11 _ _ ?_)
  refine wp_cond_true rfl ?_
  refine wp_seq_k fun K12 hK12 => rgn ?_
  refine VlS (.int .i64 7) ?_
  refine WL.nil (hK12 _ _ ?_)
  refine wp_ret ?_
  go_ret
  exact ⟨by unfold pw; rw [if_pos hfu]; rfl, _, _, by rw [if_pos hfu]; exact HDq.out, G1.out.mono fun k _ h => .inl h, fun k hk => .inl hk⟩
 ·rw [show decide (D.fuse = 0) = false from decide_eq_false hfu]
  refine WL.nil (hK11 _ _ ?_)
  refine wp_cond_false rfl ?_
  refine wp_skip ?_
  refine hK10 _ _ ?_
  refine wp_seq_k fun K13 hK13 => ?_
  have hS0 : Keep (wq.drew.cell? ⟨p, 0, none⟩ = some (.slice (some ⟨g, 0, none⟩) cs.length vc) ∧ wq.drew.cell? ⟨g, i * 3 + 1, none⟩ = some (.slice xa f.bs.length xc)) := ⟨HDq.out.blk.drew.c 0 rfl, Cq.out.1⟩
  have hwm : IntKind.i64.wrap ((f.bs.length : Int) - (m : Int)) = (f.bs.length : Int) - (m : Int) := by rw [IntKind.wrap_i64]; have := HU.out; have := HM.out; omega
  have hwu : IntKind.i64.wrap (D.used - ((f.bs.length : Int) - (m : Int))) = D.used - ((f.bs.length : Int) - (m : Int)) := by rw [IntKind.wrap_i64]; have := HU.out; have := HM.out; omega
  refine wp_region_held_drew (S := fun wx => wx.cell? ⟨p, 0, none⟩ = some (.slice (some ⟨g, 0, none⟩) cs.length vc) ∧ wx.cell? ⟨g, i * 3 + 1, none⟩ = some (.slice xa f.bs.length xc)) (by kernel_rfl) (hS0.out) (fun hHeld => ?_)
  refine TkJ (i := 0) (oi := ⟨some 43, Op.move (Operand.tmp 7), 65, _, _, none⟩) (v := .pointer (some ⟨p, 0, none⟩)) rfl hHeld ?_
  refine TkJ (i := 1) (oi := ⟨some 44, Op.nilCheck (Operand.tmp 43), 0, _, _, none⟩) (v := .pointer (some ⟨p, 0, none⟩)) rfl hHeld ?_
  refine TkJ (i := 2) (oi := ⟨some 45, Op.fieldAddr 71 (Operand.tmp 44) 2, 0, _, _, none⟩) (v := .pointer (some ⟨p, 2, none⟩)) rfl hHeld ?_
  refine TkJ (i := 4) (oi := ⟨some 47, Op.move (Operand.tmp 7), 65, _, _, none⟩) (v := .pointer (some ⟨p, 0, none⟩)) rfl hHeld ?_
  refine TkJ (i := 5) (oi := ⟨some 48, Op.nilCheck (Operand.tmp 47), 0, _, _, none⟩) (v := .pointer (some ⟨p, 0, none⟩)) rfl hHeld ?_
  refine TkJ (i := 6) (oi := ⟨some 49, Op.fieldAddr 71 (Operand.tmp 48) 0, 0, _, _, none⟩) (v := .pointer (some ⟨p, 0, none⟩)) rfl hHeld ?_
  refine TkJ (i := 7) (oi := ⟨some 50, Op.load 22 (Operand.tmp 49), 22, _, _, none⟩) (v := .slice (some ⟨g, 0, none⟩) cs.length vc) rfl hHeld ?_
  refine TkJ (i := 8) (oi := ⟨some 51, Op.move (Operand.tmp 8), 3, _, _, none⟩) (v := .int .i64 (i : Int)) rfl hHeld ?_
  refine TkJ (i := 9) (oi := ⟨some 52, Op.indexAddr 22 (Operand.tmp 50) (Operand.tmp 51), 0, _, _, none⟩) (v := .pointer (some ⟨g, i * 3, none⟩)) rfl hHeld ?_
  refine TkJ (i := 10) (oi := ⟨some 53, Op.fieldAddr 49 (Operand.tmp 52) 1, 0, _, _, none⟩) (v := .pointer (some ⟨g, i * 3 + 1, none⟩)) rfl hHeld ?_
  refine TkJ (i := 11) (oi := ⟨some 54, Op.load 40 (Operand.tmp 53), 40, _, _, none⟩) (v := .slice xa f.bs.length xc) rfl hHeld ?_
  refine TkJ (i := 12) (oi := ⟨some 55, Op.call { callee := Callee.builtin Builtin.len, args := #[Operand.tmp 54], argTypes := #[40] }, 3, _, _, none⟩) (v := .int .i64 (f.bs.length : Int)) rfl hHeld ?_
  refine TkJ (i := 13) (oi := ⟨some 56, Op.move (Operand.tmp 2), 3, _, _, none⟩) (v := .int .i64 (m : Int)) rfl hHeld ?_
  refine TkJ (i := 14) (oi := ⟨some 57, Op.binOp BinOp.sub 3 (Operand.tmp 55) (Operand.tmp 56) 3, 3, _, _, none⟩) (v := .int .i64 ((f.bs.length : Int) - (m : Int))) rfl hHeld ?_
  refine wpAnyH_ready (rs := [3]) (by kernel_rfl) (by simp) ?_
  refine AllReadyH.cons (o := ⟨some 46, Op.load 3 (Operand.tmp 45), 3, _, _, none⟩) rfl (fun K hK => ?_) AllReadyH.nil
  rw [if_pos (by rfl)]
  have cl : wq.drew.cell? ⟨p, 2, none⟩ = some (.int .i64 D.used) := HDq.out.blk.drew.c 2 rfl
  refine wp_val (.int .i64 D.used) (by go_simp) ?_
  clear cl
  refine hK _ _ hS0.out fun hH1 => ?_
  clear hK
  simp only [Act.put, pqA, pqB, pqC]
  refine TkJ (i := 15) (oi := ⟨some 58, Op.binOp BinOp.sub 3 (Operand.tmp 46) (Operand.tmp 57) 3, 3, _, _, none⟩) (v := .int .i64 (D.used - ((f.bs.length : Int) - (m : Int)))) rfl hH1 ?_
  refine TkJ (i := 16) (oi := ⟨some 59, Op.nilCheck (Operand.tmp 43), 0, _, _, none⟩) (v := .pointer (some ⟨p, 0, none⟩)) rfl hH1 ?_
  refine TkJ (i := 17) (oi := ⟨some 60, Op.fieldAddr 71 (Operand.tmp 59) 2, 0, _, _, none⟩) (v := .pointer (some ⟨p, 2, none⟩)) rfl hH1 ?_
  refine wpAnyH_ready (rs := [18]) (by kernel_rfl) (by simp) ?_
  refine AllReadyH.cons (o := ⟨none, Op.store 3 (Operand.tmp 60) (Operand.tmp 58), 0, _, _, none⟩) rfl (fun K hK => ?_) AllReadyH.nil
  rw [if_pos (by rfl)]
  have f_o := HDq.out.blk.drew.frozen 2
  have cl : wq.drew.cell? ⟨p, 2, none⟩ = some (.int .i64 D.used) := HDq.out.blk.drew.c 2 rfl
  refine wp_cellS (wq.drew.setCell ⟨p, 2, none⟩ (.int .i64 (D.used - ((f.bs.length : Int) - (m : Int))))) (by go_simp) ?_
  clear f_o cl
  have HD2 : Keep (DskAt (wq.drew.setCell ⟨p, 2, none⟩ (.int .i64 (D.used - ((f.bs.length : Int) - (m : Int))))) p (.slice (some ⟨g, 0, none⟩) cs.length vc) cs { D.act with used := D.used - ((f.bs.length : Int) - (m : Int)) }) := ⟨(HDq.out.grown (Grown.refl wq (fun _ => False)).drew fun _ _ h => h).put rfl rfl⟩
  have hgs : Grown wq.drew (wq.drew.setCell ⟨p, 2, none⟩ (.int .i64 (D.used - ((f.bs.length : Int) - (m : Int))))) fun k => k = p := Grown.setCell wq.drew p 2 _ fun _ => rfl
  have G2 : Keep (Grown w (wq.drew.setCell ⟨p, 2, none⟩ (.int .i64 (D.used - ((f.bs.length : Int) - (m : Int))))) fun k => k = p) := ⟨G1.out.drew.trans hgs⟩
  have C2 : Keep ((wq.drew.setCell ⟨p, 2, none⟩ (.int .i64 (D.used - ((f.bs.length : Int) - (m : Int))))).cell? ⟨g, i * 3 + 1, none⟩ = some (.slice xa f.bs.length xc) ∧ (wq.drew.setCell ⟨p, 2, none⟩ (.int .i64 (D.used - ((f.bs.length : Int) - (m : Int))))).cell? ⟨g, i * 3 + 2, none⟩ = some (.int .i64 xs)) := ⟨hgs.cell Cq.out.1 hgp.out, hgs.cell Cq.out.2 hgp.out⟩
  refine hK _ _ ⟨HD2.out.blk.c 0 rfl, C2.out.1⟩ fun hH2 => ?_
  clear hK HDq G1 Cq hS0 hwu hwm hgs
  generalize (wq.drew.setCell ⟨p, 2, none⟩ (.int .i64 (D.used - ((f.bs.length : Int) - (m : Int))))) = w2 at *
  simp only [Act.put, pqA, pqB, pqC]
  refine wpAnyH_done (by kernel_rfl) ?_ _
  refine hK13 _ _ ?_
  refine wp_seq_k fun K14 hK14 => ?_
  have HD3 : Keep (DskAt w2.drew p (.slice (some ⟨g, 0, none⟩) cs.length vc) cs { D.act with used := D.used - ((f.bs.length : Int) - (m : Int)) }) := ⟨HD2.out.grown (Grown.refl w2 (fun _ => False)).drew fun _ _ h => h⟩
  have G3 : Keep (Grown w w2.drew fun k => k = p) := ⟨G2.out.drew⟩
  clear HD2 G2 C2
  have HX3 : Keep (RowAt w2.drew (.slice xa f.bs.length xc) f.bs) := ⟨(HD3.out.fcs.each i _ f HX.out HFi.out).2.2.row⟩
  obtain ⟨vs, hs1, hs2⟩ := sub_any (.slice xa f.bs.length xc) f.bs w2.drew HX3.out m HM.out
  have HS1 := Keep.mk hs1
  have HS2 := Keep.mk hs2
  clear hs1 hs2
  refine wp_region_held_drew (S := fun wx => wx.cell? ⟨p, 0, none⟩ = some (.slice (some ⟨g, 0, none⟩) cs.length vc)) (by kernel_rfl) (HD3.out.blk.c 0 rfl) (fun hHeld => ?_)
  generalize w2.drew = w3 at *
  refine TkG (i := 0) (oi := ⟨some 61, Op.move (Operand.tmp 7), 65, _, _, none⟩) (v := .pointer (some ⟨p, 0, none⟩)) rfl hHeld ?_
  refine TkG (i := 1) (oi := ⟨some 62, Op.nilCheck (Operand.tmp 61), 0, _, _, none⟩) (v := .pointer (some ⟨p, 0, none⟩)) rfl hHeld ?_
  refine TkG (i := 2) (oi := ⟨some 63, Op.fieldAddr 71 (Operand.tmp 62) 0, 0, _, _, none⟩) (v := .pointer (some ⟨p, 0, none⟩)) rfl hHeld ?_
  refine TkG (i := 3) (oi := ⟨some 64, Op.load 22 (Operand.tmp 63), 22, _, _, none⟩) (v := .slice (some ⟨g, 0, none⟩) cs.length vc) rfl hHeld ?_
  refine TkG (i := 4) (oi := ⟨some 65, Op.move (Operand.tmp 8), 3, _, _, none⟩) (v := .int .i64 (i : Int)) rfl hHeld ?_
  refine TkG (i := 6) (oi := ⟨some 67, Op.move (Operand.tmp 7), 65, _, _, none⟩) (v := .pointer (some ⟨p, 0, none⟩)) rfl hHeld ?_
  refine TkG (i := 7) (oi := ⟨some 68, Op.nilCheck (Operand.tmp 67), 0, _, _, none⟩) (v := .pointer (some ⟨p, 0, none⟩)) rfl hHeld ?_
  refine TkG (i := 8) (oi := ⟨some 69, Op.fieldAddr 71 (Operand.tmp 68) 0, 0, _, _, none⟩) (v := .pointer (some ⟨p, 0, none⟩)) rfl hHeld ?_
  refine TkG (i := 9) (oi := ⟨some 70, Op.load 22 (Operand.tmp 69), 22, _, _, none⟩) (v := .slice (some ⟨g, 0, none⟩) cs.length vc) rfl hHeld ?_
  refine TkG (i := 10) (oi := ⟨some 71, Op.move (Operand.tmp 8), 3, _, _, none⟩) (v := .int .i64 (i : Int)) rfl hHeld ?_
  refine TkG (i := 11) (oi := ⟨some 72, Op.indexAddr 22 (Operand.tmp 70) (Operand.tmp 71), 0, _, _, none⟩) (v := .pointer (some ⟨g, i * 3, none⟩)) rfl hHeld ?_
  refine TkG (i := 12) (oi := ⟨some 73, Op.fieldAddr 49 (Operand.tmp 72) 1, 0, _, _, none⟩) (v := .pointer (some ⟨g, i * 3 + 1, none⟩)) rfl hHeld ?_
  refine TkG (i := 14) (oi := ⟨some 75, Op.move (Operand.tmp 2), 3, _, _, none⟩) (v := .int .i64 (m : Int)) rfl hHeld ?_
  refine wpAnyH_ready (rs := [5, 13]) (by kernel_rfl) (by simp) ?_
  refine AllReadyH.cons (o := ⟨some 66, Op.buildSlice 40 0 #[], 40, _, _, none⟩) rfl (fun K hK => ?_) (AllReadyH.cons (o := ⟨some 74, Op.load 40 (Operand.tmp 73), 40, _, _, none⟩) rfl (fun K hK => ?_) AllReadyH.nil)
  all_goals rw [if_pos (by rfl)]
  ·refine wp_bsj 40 0 _ rfl #[] (by simp) _ _ (bsBE w3) ?_
   have hbx := below_new w3 (.cells #[] 5)
   have HE4 : Keep (Own (w3.alloc (.cells #[] 5)) (.slice (some ⟨w3.heap.size, 0, none⟩) 0 0) []) := ⟨own_empty _ _ (Blk.new w3 5 #[])⟩
   have HD4 := Keep.mk (HD3.out.below hbx)
   have B4 := Keep.mk hbx
   clear hbx
   generalize w3.alloc (.cells #[] 5) = w4 at *
   obtain ⟨ge, hge⟩ : ∃ q, Keep (q = w3.heap.size) := ⟨_, ⟨rfl⟩⟩
   rw [← hge.out] at HE4 ⊢
   refine hK _ _ (HD4.out.blk.c 0 rfl) fun hB4 => ?_
   clear hK
   simp only [Act.put, pqA, pqB, pqC]
   refine wpAnyH_ready (rs := [13]) (by kernel_rfl) (by simp) ?_
   refine AllReadyH.cons (o := ⟨some 74, Op.load 40 (Operand.tmp 73), 40, _, _, none⟩) rfl (fun K hK => ?_) AllReadyH.nil
   rw [if_pos (by rfl)]
   have cl : w4.cell? ⟨g, i * 3 + 1, none⟩ = some (.slice xa f.bs.length xc) := (own_fc HD4.out.own HX.out).1
   refine wp_val (.slice xa f.bs.length xc) (by go_simp) ?_
   clear cl
   refine hK _ _ (HD4.out.blk.c 0 rfl) fun hL4 => ?_
   clear hK
   simp only [Act.put, pqA, pqB, pqC]
   refine tkS (i := 15) (oi := ⟨some 76, Op.slice 40 (Operand.tmp 74) none (some (Operand.tmp 75)) none, 40, _, _, none⟩) (v := vs) rfl (yieldsIf_slice (by rfl) 40 (.tmp 74) (.tmp 75) rfl (.slice xa f.bs.length xc) (.int .i64 (m : Int)) vs rfl rfl HS1.out) hL4 ?_
   refine wpAnyH_ready (rs := [16]) (by kernel_rfl) (by simp) ?_
   refine AllReadyH.cons (o := ⟨some 77, Op.call { callee := Callee.builtin Builtin.append, args := #[Operand.tmp 66, Operand.tmp 76], argTypes := #[40, 40] }, 40, _, _, none⟩) rfl (fun K hK => ?_) AllReadyH.nil
   rw [if_pos (by rfl)]
   refine wp_app (.tmp 66) (.tmp 76) rfl (.slice (some ⟨ge, 0, none⟩) 0 0) vs [] (f.bs.take m) rfl rfl HE4.out (HS2.out w4 (HX3.out.below B4.out)) (by have := HU.out; simp; omega) fun v9 w9 hp => ?_
   have HV9 : Keep (Own w9 v9 (f.bs.take m)) := ⟨by have h := hp.1; rw [List.nil_append] at h; exact h⟩
   have N9 : Keep (∀ k, v9.ownBlock = some k → w3.heap.size ≤ k) := ⟨own_new hp B4.out.size fun k hk => by have e : ge = k := Option.some.inj hk; have := hge.out; omega⟩
   have B9 : Keep (Below w3.heap.size w3 w9) := ⟨B4.out.trans (hp.grown.to_below (B := w3.heap.size) (fun k hk e => by have e : ge = k := Option.some.inj e; have := hge.out; omega) B4.out.size)⟩
   have HD9 := Keep.mk (HD3.out.below B9.out)
   clear hp
   obtain ⟨a9, n9, k9, e9⟩ := HV9.out.sl
   subst e9
   refine hK _ _ (HD9.out.blk.c 0 rfl) fun hA9 => ?_
   clear hK
   simp only [Act.put, pqA, pqB, pqC]
   refine TkG (i := 17) (oi := ⟨some 78, Op.indexAddr 22 (Operand.tmp 64) (Operand.tmp 65), 0, _, _, none⟩) (v := .pointer (some ⟨g, i * 3, none⟩)) rfl hA9 ?_
   refine TkG (i := 18) (oi := ⟨some 79, Op.fieldAddr 49 (Operand.tmp 78) 1, 0, _, _, none⟩) (v := .pointer (some ⟨g, i * 3 + 1, none⟩)) rfl hA9 ?_
   refine wpAnyH_ready (rs := [19]) (by kernel_rfl) (by simp) ?_
   refine AllReadyH.cons (o := ⟨none, Op.store 40 (Operand.tmp 79) (Operand.tmp 77), 0, _, _, none⟩) rfl (fun K hK => ?_) AllReadyH.nil
   rw [if_pos (by rfl)]
   have f_o : w9.frozen? ⟨g, i * 3 + 1, none⟩ = false := ownF_frozen (l := cs) HD9.out.own _
   have cl := (own_fc HD9.out.own HX.out).1
   refine wp_cellS (w9.setCell ⟨g, i * 3 + 1, none⟩ (.slice a9 n9 k9)) (by go_simp) ?_
   clear f_o cl
   have HD10 : Keep (DskAt (w9.setCell ⟨g, i * 3 + 1, none⟩ (.slice a9 n9 k9)) p (.slice (some ⟨g, 0, none⟩) cs.length vc) (cs.set i (⟨xn, .slice a9 n9 k9, xs⟩ : FC)) { D.act with used := D.used - ((f.bs.length : Int) - (m : Int)), fs := D.fs.set i { f with bs := f.bs.take m } }) := ⟨dsk_newb HD3.out HX.out HFi.out B9.out HV9.out N9.out⟩
   have G10 : Keep (Grown w (w9.setCell ⟨g, i * 3 + 1, none⟩ (.slice a9 n9 k9)) fun k => k = p ∨ k = g) := ⟨((G3.out.trans (Grown.below B9.out)).mono fun k _ h => .inl h).next (Grown.setCell w9 g _ _ (S := fun k => k = g) fun _ => rfl) fun k _ e => .inr e⟩
   have N10 : Keep (∀ k, (Value.slice a9 n9 k9).ownBlock = some k → w.heap.size ≤ k) := ⟨fun k hk => Nat.le_trans G3.out.size (N9.out k hk)⟩
   clear HD9 HD3 G3 B9 HV9 N9 HD4 HE4 B4
   generalize w9.setCell ⟨g, i * 3 + 1, none⟩ (.slice a9 n9 k9) = w10 at *
   refine hK _ _ (HD10.out.blk.c 0 rfl) fun hS10 => ?_
   clear hK
   simp only [Act.put, pqA, pqB, pqC]
   refine wpAnyH_done (by kernel_rfl) ?_ _
   refine hK14 _ _ ?_
   refine wp_seq_k fun K15 hK15 => ?_
   have HD11 : Keep (DskAt w10.drew p (.slice (some ⟨g, 0, none⟩) cs.length vc) (cs.set i (⟨xn, .slice a9 n9 k9, xs⟩ : FC)) { D.act with used := D.used - ((f.bs.length : Int) - (m : Int)), fs := D.fs.set i { f with bs := f.bs.take m } }) := ⟨HD10.out.grown (Grown.refl w10 (fun _ => False)).drew fun _ _ h => h⟩
   have HX11 : Keep ((cs.set i (⟨xn, .slice a9 n9 k9, xs⟩ : FC))[i]? = some (⟨xn, .slice a9 n9 k9, xs⟩ : FC)) := ⟨List.getElem?_set_self (List.getElem?_eq_some_iff.1 HX.out).1⟩
   have HF11 : Keep ((D.fs.set i { f with bs := f.bs.take m })[i]? = some ({ f with bs := f.bs.take m } : PF)) := ⟨List.getElem?_set_self (List.getElem?_eq_some_iff.1 HFi.out).1⟩
   have G11 : Keep (Grown w w10.drew fun k => k = p ∨ k = g) := ⟨G10.out.drew⟩
   clear HD10 G10
   refine wp_region_held_drew (S := fun wx => wx.cell? ⟨p, 0, none⟩ = some (.slice (some ⟨g, 0, none⟩) cs.length vc)) (by kernel_rfl) (HD11.out.blk.c 0 rfl) (fun hHeld => ?_)
   generalize w10.drew = w11 at *
   refine TkG (i := 0) (oi := ⟨some 80, Op.move (Operand.tmp 7), 65, _, _, none⟩) (v := .pointer (some ⟨p, 0, none⟩)) rfl hHeld ?_
   refine TkG (i := 1) (oi := ⟨some 81, Op.nilCheck (Operand.tmp 80), 0, _, _, none⟩) (v := .pointer (some ⟨p, 0, none⟩)) rfl hHeld ?_
   refine TkG (i := 2) (oi := ⟨some 82, Op.fieldAddr 71 (Operand.tmp 81) 0, 0, _, _, none⟩) (v := .pointer (some ⟨p, 0, none⟩)) rfl hHeld ?_
   refine TkG (i := 3) (oi := ⟨some 83, Op.load 22 (Operand.tmp 82), 22, _, _, none⟩) (v := .slice (some ⟨g, 0, none⟩) cs.length vc) rfl hHeld ?_
   refine TkG (i := 4) (oi := ⟨some 84, Op.move (Operand.tmp 8), 3, _, _, none⟩) (v := .int .i64 (i : Int)) rfl hHeld ?_
   refine TkG (i := 5) (oi := ⟨some 85, Op.move (Operand.tmp 7), 65, _, _, none⟩) (v := .pointer (some ⟨p, 0, none⟩)) rfl hHeld ?_
   refine TkG (i := 6) (oi := ⟨some 86, Op.nilCheck (Operand.tmp 85), 0, _, _, none⟩) (v := .pointer (some ⟨p, 0, none⟩)) rfl hHeld ?_
   refine TkG (i := 7) (oi := ⟨some 87, Op.fieldAddr 71 (Operand.tmp 86) 0, 0, _, _, none⟩) (v := .pointer (some ⟨p, 0, none⟩)) rfl hHeld ?_
   refine TkG (i := 8) (oi := ⟨some 88, Op.load 22 (Operand.tmp 87), 22, _, _, none⟩) (v := .slice (some ⟨g, 0, none⟩) cs.length vc) rfl hHeld ?_
   refine TkG (i := 9) (oi := ⟨some 89, Op.move (Operand.tmp 8), 3, _, _, none⟩) (v := .int .i64 (i : Int)) rfl hHeld ?_
   refine TkG (i := 10) (oi := ⟨some 90, Op.indexAddr 22 (Operand.tmp 88) (Operand.tmp 89), 0, _, _, none⟩) (v := .pointer (some ⟨g, i * 3, none⟩)) rfl hHeld ?_
   refine TkG (i := 11) (oi := ⟨some 91, Op.fieldAddr 49 (Operand.tmp 90) 2, 0, _, _, none⟩) (v := .pointer (some ⟨g, i * 3 + 2, none⟩)) rfl hHeld ?_
   refine TkG (i := 13) (oi := ⟨some 93, Op.move (Operand.tmp 2), 3, _, _, none⟩) (v := .int .i64 (m : Int)) rfl hHeld ?_
   refine wpAnyH_ready (rs := [12]) (by kernel_rfl) (by simp) ?_
   refine AllReadyH.cons (o := ⟨some 92, Op.load 3 (Operand.tmp 91), 3, _, _, none⟩) rfl (fun K hK => ?_) AllReadyH.nil
   rw [if_pos (by rfl)]
   have cl : w11.cell? ⟨g, i * 3 + 2, none⟩ = some (.int .i64 xs) := (own_fc HD11.out.own HX11.out).2
   refine wp_val (.int .i64 xs) (by go_simp) ?_
   clear cl
   refine hK _ _ (HD11.out.blk.c 0 rfl) fun hL11 => ?_
   clear hK
   simp only [Act.put, pqA, pqB, pqC]
   refine TkG (i := 14) (oi := ⟨some 94, Op.call { callee := Callee.builtin Builtin.min, args := #[Operand.tmp 92, Operand.tmp 93], argTypes := #[3, 3] }, 3, _, _, none⟩) (v := .int .i64 (min xs (m : Int))) rfl hL11 ?_
   refine TkG (i := 15) (oi := ⟨some 95, Op.indexAddr 22 (Operand.tmp 83) (Operand.tmp 84), 0, _, _, none⟩) (v := .pointer (some ⟨g, i * 3, none⟩)) rfl hL11 ?_
   refine TkG (i := 16) (oi := ⟨some 96, Op.fieldAddr 49 (Operand.tmp 95) 2, 0, _, _, none⟩) (v := .pointer (some ⟨g, i * 3 + 2, none⟩)) rfl hL11 ?_
   refine wpAnyH_ready (rs := [17]) (by kernel_rfl) (by simp) ?_
   refine AllReadyH.cons (o := ⟨none, Op.store 3 (Operand.tmp 96) (Operand.tmp 94), 0, _, _, none⟩) rfl (fun K hK => ?_) AllReadyH.nil
   rw [if_pos (by rfl)]
   have f_o : w11.frozen? ⟨g, i * 3 + 2, none⟩ = false := ownF_frozen HD11.out.own _
   have cl : w11.cell? ⟨g, i * 3 + 2, none⟩ = some (.int .i64 xs) := (own_fc HD11.out.own HX11.out).2
   refine wp_cellS (w11.setCell ⟨g, i * 3 + 2, none⟩ (.int .i64 (min xs (m : Int)))) (by go_simp) ?_
   clear f_o cl
   have HD12 : Keep (DskAt (w11.setCell ⟨g, i * 3 + 2, none⟩ (.int .i64 (min xs (m : Int)))) p (.slice (some ⟨g, 0, none⟩) cs.length vc) (cs.set i (⟨xn, .slice a9 n9 k9, min xs (m : Int)⟩ : FC)) (D.act.cut i f m)) := ⟨dsk_cut (E := D.act) HD11.out (List.getElem?_eq_some_iff.1 HX.out).1 (List.getElem?_eq_some_iff.1 HFi.out).1 HXs.out⟩
   have G12 : Keep (Grown w (w11.setCell ⟨g, i * 3 + 2, none⟩ (.int .i64 (min xs (m : Int)))) fun k => k = p ∨ k = g) := ⟨G11.out.trans (Grown.setCell w11 g _ _ fun _ => .inr rfl)⟩
   clear HD11 G11
   generalize w11.setCell ⟨g, i * 3 + 2, none⟩ (.int .i64 (min xs (m : Int))) = w12 at *
   refine hK _ _ (HD12.out.blk.c 0 rfl) fun hS12 => ?_
   clear hK
   simp only [Act.put, pqA, pqB, pqC]
   refine wpAnyH_done (by kernel_rfl) ?_ _
   refine hK15 _ _ ?_
   refine wp_seq_k fun K16 hK16 => rgn ?_
   refine VlS (.int .i64 0) ?_
   refine WL.nil (hK16 _ _ ?_)
   refine wp_ret ?_
   go_ret
   exact ⟨by unfold pw; rw [if_neg hfu]; rfl, _, _, by rw [if_neg hfu]; exact HD12.out, G12.out.mono fun k _ h => h.imp id fun e => by rw [e]; rfl, fun k hk => dskS_newb HX.out N10.out k hk⟩
  ·have cl : w3.cell? ⟨g, i * 3 + 1, none⟩ = some (.slice xa f.bs.length xc) := (own_fc HD3.out.own HX.out).1
   refine wp_val (.slice xa f.bs.length xc) (by go_simp) ?_
   clear cl
   refine hK _ _ (HD3.out.blk.c 0 rfl) fun hL3 => ?_
   clear hK
   simp only [Act.put, pqA, pqB, pqC]
   refine tkS (i := 15) (oi := ⟨some 76, Op.slice 40 (Operand.tmp 74) none (some (Operand.tmp 75)) none, 40, _, _, none⟩) (v := vs) rfl (yieldsIf_slice (by rfl) 40 (.tmp 74) (.tmp 75) rfl (.slice xa f.bs.length xc) (.int .i64 (m : Int)) vs rfl rfl HS1.out) hL3 ?_
   refine wpAnyH_ready (rs := [5]) (by kernel_rfl) (by simp) ?_
   refine AllReadyH.cons (o := ⟨some 66, Op.buildSlice 40 0 #[], 40, _, _, none⟩) rfl (fun K hK => ?_) AllReadyH.nil
   rw [if_pos (by rfl)]
   refine wp_bsj 40 0 _ rfl #[] (by simp) _ _ (bsBE w3) ?_
   have hbx := below_new w3 (.cells #[] 5)
   have HE4 : Keep (Own (w3.alloc (.cells #[] 5)) (.slice (some ⟨w3.heap.size, 0, none⟩) 0 0) []) := ⟨own_empty _ _ (Blk.new w3 5 #[])⟩
   have HD4 := Keep.mk (HD3.out.below hbx)
   have B4 := Keep.mk hbx
   clear hbx
   generalize w3.alloc (.cells #[] 5) = w4 at *
   obtain ⟨ge, hge⟩ : ∃ q, Keep (q = w3.heap.size) := ⟨_, ⟨rfl⟩⟩
   rw [← hge.out] at HE4 ⊢
   refine hK _ _ (HD4.out.blk.c 0 rfl) fun hB4 => ?_
   clear hK
   simp only [Act.put, pqA, pqB, pqC]
   refine wpAnyH_ready (rs := [16]) (by kernel_rfl) (by simp) ?_
   refine AllReadyH.cons (o := ⟨some 77, Op.call { callee := Callee.builtin Builtin.append, args := #[Operand.tmp 66, Operand.tmp 76], argTypes := #[40, 40] }, 40, _, _, none⟩) rfl (fun K hK => ?_) AllReadyH.nil
   rw [if_pos (by rfl)]
   refine wp_app (.tmp 66) (.tmp 76) rfl (.slice (some ⟨ge, 0, none⟩) 0 0) vs [] (f.bs.take m) rfl rfl HE4.out (HS2.out w4 (HX3.out.below B4.out)) (by have := HU.out; simp; omega) fun v9 w9 hp => ?_
   have HV9 : Keep (Own w9 v9 (f.bs.take m)) := ⟨by have h := hp.1; rw [List.nil_append] at h; exact h⟩
   have N9 : Keep (∀ k, v9.ownBlock = some k → w3.heap.size ≤ k) := ⟨own_new hp B4.out.size fun k hk => by have e : ge = k := Option.some.inj hk; have := hge.out; omega⟩
   have B9 : Keep (Below w3.heap.size w3 w9) := ⟨B4.out.trans (hp.grown.to_below (B := w3.heap.size) (fun k hk e => by have e : ge = k := Option.some.inj e; have := hge.out; omega) B4.out.size)⟩
   have HD9 := Keep.mk (HD3.out.below B9.out)
   clear hp
   obtain ⟨a9, n9, k9, e9⟩ := HV9.out.sl
   subst e9
   refine hK _ _ (HD9.out.blk.c 0 rfl) fun hA9 => ?_
   clear hK
   simp only [Act.put, pqA, pqB, pqC]
   refine TkG (i := 17) (oi := ⟨some 78, Op.indexAddr 22 (Operand.tmp 64) (Operand.tmp 65), 0, _, _, none⟩) (v := .pointer (some ⟨g, i * 3, none⟩)) rfl hA9 ?_
   refine TkG (i := 18) (oi := ⟨some 79, Op.fieldAddr 49 (Operand.tmp 78) 1, 0, _, _, none⟩) (v := .pointer (some ⟨g, i * 3 + 1, none⟩)) rfl hA9 ?_
   refine wpAnyH_ready (rs := [19]) (by kernel_rfl) (by simp) ?_
   refine AllReadyH.cons (o := ⟨none, Op.store 40 (Operand.tmp 79) (Operand.tmp 77), 0, _, _, none⟩) rfl (fun K hK => ?_) AllReadyH.nil
   rw [if_pos (by rfl)]
   have f_o : w9.frozen? ⟨g, i * 3 + 1, none⟩ = false := ownF_frozen (l := cs) HD9.out.own _
   have cl := (own_fc HD9.out.own HX.out).1
   refine wp_cellS (w9.setCell ⟨g, i * 3 + 1, none⟩ (.slice a9 n9 k9)) (by go_simp) ?_
   clear f_o cl
   have HD10 : Keep (DskAt (w9.setCell ⟨g, i * 3 + 1, none⟩ (.slice a9 n9 k9)) p (.slice (some ⟨g, 0, none⟩) cs.length vc) (cs.set i (⟨xn, .slice a9 n9 k9, xs⟩ : FC)) { D.act with used := D.used - ((f.bs.length : Int) - (m : Int)), fs := D.fs.set i { f with bs := f.bs.take m } }) := ⟨dsk_newb HD3.out HX.out HFi.out B9.out HV9.out N9.out⟩
   have G10 : Keep (Grown w (w9.setCell ⟨g, i * 3 + 1, none⟩ (.slice a9 n9 k9)) fun k => k = p ∨ k = g) := ⟨((G3.out.trans (Grown.below B9.out)).mono fun k _ h => .inl h).next (Grown.setCell w9 g _ _ (S := fun k => k = g) fun _ => rfl) fun k _ e => .inr e⟩
   have N10 : Keep (∀ k, (Value.slice a9 n9 k9).ownBlock = some k → w.heap.size ≤ k) := ⟨fun k hk => Nat.le_trans G3.out.size (N9.out k hk)⟩
   clear HD9 HD3 G3 B9 HV9 N9 HD4 HE4 B4
   generalize w9.setCell ⟨g, i * 3 + 1, none⟩ (.slice a9 n9 k9) = w10 at *
   refine hK _ _ (HD10.out.blk.c 0 rfl) fun hS10 => ?_
   clear hK
   simp only [Act.put, pqA, pqB, pqC]
   refine wpAnyH_done (by kernel_rfl) ?_ _
   refine hK14 _ _ ?_
   refine wp_seq_k fun K17 hK17 => ?_
   have HD11 : Keep (DskAt w10.drew p (.slice (some ⟨g, 0, none⟩) cs.length vc) (cs.set i (⟨xn, .slice a9 n9 k9, xs⟩ : FC)) { D.act with used := D.used - ((f.bs.length : Int) - (m : Int)), fs := D.fs.set i { f with bs := f.bs.take m } }) := ⟨HD10.out.grown (Grown.refl w10 (fun _ => False)).drew fun _ _ h => h⟩
   have HX11 : Keep ((cs.set i (⟨xn, .slice a9 n9 k9, xs⟩ : FC))[i]? = some (⟨xn, .slice a9 n9 k9, xs⟩ : FC)) := ⟨List.getElem?_set_self (List.getElem?_eq_some_iff.1 HX.out).1⟩
   have HF11 : Keep ((D.fs.set i { f with bs := f.bs.take m })[i]? = some ({ f with bs := f.bs.take m } : PF)) := ⟨List.getElem?_set_self (List.getElem?_eq_some_iff.1 HFi.out).1⟩
   have G11 : Keep (Grown w w10.drew fun k => k = p ∨ k = g) := ⟨G10.out.drew⟩
   clear HD10 G10
   refine wp_region_held_drew (S := fun wx => wx.cell? ⟨p, 0, none⟩ = some (.slice (some ⟨g, 0, none⟩) cs.length vc)) (by kernel_rfl) (HD11.out.blk.c 0 rfl) (fun hHeld => ?_)
   generalize w10.drew = w11 at *
   refine TkG (i := 0) (oi := ⟨some 80, Op.move (Operand.tmp 7), 65, _, _, none⟩) (v := .pointer (some ⟨p, 0, none⟩)) rfl hHeld ?_
   refine TkG (i := 1) (oi := ⟨some 81, Op.nilCheck (Operand.tmp 80), 0, _, _, none⟩) (v := .pointer (some ⟨p, 0, none⟩)) rfl hHeld ?_
   refine TkG (i := 2) (oi := ⟨some 82, Op.fieldAddr 71 (Operand.tmp 81) 0, 0, _, _, none⟩) (v := .pointer (some ⟨p, 0, none⟩)) rfl hHeld ?_
   refine TkG (i := 3) (oi := ⟨some 83, Op.load 22 (Operand.tmp 82), 22, _, _, none⟩) (v := .slice (some ⟨g, 0, none⟩) cs.length vc) rfl hHeld ?_
   refine TkG (i := 4) (oi := ⟨some 84, Op.move (Operand.tmp 8), 3, _, _, none⟩) (v := .int .i64 (i : Int)) rfl hHeld ?_
   refine TkG (i := 5) (oi := ⟨some 85, Op.move (Operand.tmp 7), 65, _, _, none⟩) (v := .pointer (some ⟨p, 0, none⟩)) rfl hHeld ?_
   refine TkG (i := 6) (oi := ⟨some 86, Op.nilCheck (Operand.tmp 85), 0, _, _, none⟩) (v := .pointer (some ⟨p, 0, none⟩)) rfl hHeld ?_
   refine TkG (i := 7) (oi := ⟨some 87, Op.fieldAddr 71 (Operand.tmp 86) 0, 0, _, _, none⟩) (v := .pointer (some ⟨p, 0, none⟩)) rfl hHeld ?_
   refine TkG (i := 8) (oi := ⟨some 88, Op.load 22 (Operand.tmp 87), 22, _, _, none⟩) (v := .slice (some ⟨g, 0, none⟩) cs.length vc) rfl hHeld ?_
   refine TkG (i := 9) (oi := ⟨some 89, Op.move (Operand.tmp 8), 3, _, _, none⟩) (v := .int .i64 (i : Int)) rfl hHeld ?_
   refine TkG (i := 10) (oi := ⟨some 90, Op.indexAddr 22 (Operand.tmp 88) (Operand.tmp 89), 0, _, _, none⟩) (v := .pointer (some ⟨g, i * 3, none⟩)) rfl hHeld ?_
   refine TkG (i := 11) (oi := ⟨some 91, Op.fieldAddr 49 (Operand.tmp 90) 2, 0, _, _, none⟩) (v := .pointer (some ⟨g, i * 3 + 2, none⟩)) rfl hHeld ?_
   refine TkG (i := 13) (oi := ⟨some 93, Op.move (Operand.tmp 2), 3, _, _, none⟩) (v := .int .i64 (m : Int)) rfl hHeld ?_
   refine wpAnyH_ready (rs := [12]) (by kernel_rfl) (by simp) ?_
   refine AllReadyH.cons (o := ⟨some 92, Op.load 3 (Operand.tmp 91), 3, _, _, none⟩) rfl (fun K hK => ?_) AllReadyH.nil
   rw [if_pos (by rfl)]
   have cl : w11.cell? ⟨g, i * 3 + 2, none⟩ = some (.int .i64 xs) := (own_fc HD11.out.own HX11.out).2
   refine wp_val (.int .i64 xs) (by go_simp) ?_
   clear cl
   refine hK _ _ (HD11.out.blk.c 0 rfl) fun hL11 => ?_
   clear hK
   simp only [Act.put, pqA, pqB, pqC]
   refine TkG (i := 14) (oi := ⟨some 94, Op.call { callee := Callee.builtin Builtin.min, args := #[Operand.tmp 92, Operand.tmp 93], argTypes := #[3, 3] }, 3, _, _, none⟩) (v := .int .i64 (min xs (m : Int))) rfl hL11 ?_
   refine TkG (i := 15) (oi := ⟨some 95, Op.indexAddr 22 (Operand.tmp 83) (Operand.tmp 84), 0, _, _, none⟩) (v := .pointer (some ⟨g, i * 3, none⟩)) rfl hL11 ?_
   refine TkG (i := 16) (oi := ⟨some 96, Op.fieldAddr 49 (Operand.tmp 95) 2, 0, _, _, none⟩) (v := .pointer (some ⟨g, i * 3 + 2, none⟩)) rfl hL11 ?_
   refine wpAnyH_ready (rs := [17]) (by kernel_rfl) (by simp) ?_
   refine AllReadyH.cons (o := ⟨none, Op.store 3 (Operand.tmp 96) (Operand.tmp 94), 0, _, _, none⟩) rfl (fun K hK => ?_) AllReadyH.nil
   rw [if_pos (by rfl)]
   have f_o : w11.frozen? ⟨g, i * 3 + 2, none⟩ = false := ownF_frozen HD11.out.own _
   have cl : w11.cell? ⟨g, i * 3 + 2, none⟩ = some (.int .i64 xs) := (own_fc HD11.out.own HX11.out).2
   refine wp_cellS (w11.setCell ⟨g, i * 3 + 2, none⟩ (.int .i64 (min xs (m : Int)))) (by go_simp) ?_
   clear f_o cl
   have HD12 : Keep (DskAt (w11.setCell ⟨g, i * 3 + 2, none⟩ (.int .i64 (min xs (m : Int)))) p (.slice (some ⟨g, 0, none⟩) cs.length vc) (cs.set i (⟨xn, .slice a9 n9 k9, min xs (m : Int)⟩ : FC)) (D.act.cut i f m)) := ⟨dsk_cut (E := D.act) HD11.out (List.getElem?_eq_some_iff.1 HX.out).1 (List.getElem?_eq_some_iff.1 HFi.out).1 HXs.out⟩
   have G12 : Keep (Grown w (w11.setCell ⟨g, i * 3 + 2, none⟩ (.int .i64 (min xs (m : Int)))) fun k => k = p ∨ k = g) := ⟨G11.out.trans (Grown.setCell w11 g _ _ fun _ => .inr rfl)⟩
   clear HD11 G11
   generalize w11.setCell ⟨g, i * 3 + 2, none⟩ (.int .i64 (min xs (m : Int))) = w12 at *
   refine hK _ _ (HD12.out.blk.c 0 rfl) fun hS12 => ?_
   clear hK
   simp only [Act.put, pqA, pqB, pqC]
   refine wpAnyH_done (by kernel_rfl) ?_ _
   refine hK17 _ _ ?_
   refine wp_seq_k fun K18 hK18 => rgn ?_
   refine VlS (.int .i64 0) ?_
   refine WL.nil (hK18 _ _ ?_)
   refine wp_ret ?_
   go_ret
   exact ⟨by unfold pw; rw [if_neg hfu]; rfl, _, _, by rw [if_neg hfu]; exact HD12.out, G12.out.mono fun k _ h => h.imp id fun e => by rw [e]; rfl, fun k hk => dskS_newb HX.out N10.out k hk⟩
def sL (l : List ByteArray) : List Value := l.map fun s => .string s
def OwnS (w : World) (v : Value) (l : List ByteArray) : Prop := w.ownsRow 0 9 1 v l.length (sL l)
theorem sL_one (l : List ByteArray) : ∀ u ∈ sL l, u.oneCell' = true := fun u hu => by simp [sL] at hu; obtain ⟨_, _, rfl⟩ := hu; rfl
theorem Tryz.infoS : (Tryz.prog.info? 9).map (fun i => (i.zero, i.size, i.bytes)) = some (some (.string ⟨#[]⟩), 1, 16) := by kernel_rfl
theorem ownS_empty (w : World) : OwnS (w.alloc (.cells #[] 9)) (.slice (some ⟨w.heap.size, 0, none⟩) 0 0) [] :=
 ⟨rfl, .inr ⟨w.heap.size, 0, #[], rfl, Nat.zero_le _, Blk.new w 9 #[], Nat.le_refl _, by decide, rfl, rfl⟩⟩
theorem OwnS.sl {w : World} {v : Value} {l : List ByteArray} (h : OwnS w v l) : ∃ a c, v = .slice a l.length c := by
 rcases h.2 with ⟨rfl, h0⟩ | ⟨g, cap, cur, rfl, _⟩
 ·have : l.length = 0 := by simp [sL] at h0; simp [h0]
  exact ⟨none, 0, by rw [this]⟩
 ·exact ⟨_, _, rfl⟩
theorem OwnS.grown {w w' : World} {v : Value} {l : List ByteArray} {S : Nat → Prop} (h : OwnS w v l) (hg : Grown w w' S) (hs : ∀ k, v.ownBlock = some k → ¬ S k) : OwnS w' v l := by
 rcases h with ⟨h1, h2 | ⟨g, cap, cur, h2, h3, h4, h5⟩⟩
 ·exact ⟨h1, .inl h2⟩
 ·exact ⟨h1, .inr ⟨g, cap, cur, h2, h3, hg.blk h4 (hs g (by rw [h2]; rfl)), h5⟩⟩
theorem OwnS.below {w w' : World} {v : Value} {l : List ByteArray} (h : OwnS w v l) (hb : Below w.heap.size w w') : OwnS w' v l := h.grown (Grown.below (S := fun _ => False) hb) fun _ _ h => h
theorem run_appT (w : World) (ty : TypeId) (v : Value) (l : List ByteArray) (hown : OwnS w v l) (g c : Nat) (x : ByteArray) (hg : Blk w g 9 #[.string x]) (hb : l.length ≤ 1000000000000) :
  ∃ v' w', (Builtin.append_ #[85, 85] ty #[v, .slice (some ⟨g, 0, none⟩) 1 c]).run Tryz.prog w = .ok v' w' ∧ OwnS w' v' (l ++ [x]) ∧ (Grown w w' fun k => v.ownBlock = some k) ∧ Moved w v v' := by
 obtain ⟨i, hi, hzz⟩ := Option.map_eq_some_iff.1 Tryz.infoS
 simp only [Prod.mk.injEq] at hzz
 obtain ⟨hz, hsz, hby⟩ := hzz
 obtain ⟨v', w', hr, h1, h2, _, h3⟩ := run_append_own_at (P := Tryz.prog) w 0 85 ty 9 i (.string ⟨#[]⟩) 1 16 Tryz.underlying85 hi hz hsz hby rfl (by omega) v l.length (sL l) hown ⟨g, 0, none⟩ 1 c (sL [x]) rfl (fun j u hu => by
   rw [Addr.add_mid, Nat.zero_add, hg.cell]; simpa [sL] using hu)
  (sL_one _) (by unfold maxLen; omega) (by omega) (Nat.zero_le _)
 refine ⟨v', w', hr, ?_, Grown.of h2 fun k _ e => e, ?_⟩
 ·unfold OwnS
  rw [List.length_append, show sL (l ++ [x]) = sL l ++ sL [x] by simp [sL]]
  exact h1
 ·rcases h3 with h3 | h3
  ·exact .inl h3
  ·exact .inr ⟨_, h3, Nat.le_refl _⟩
theorem WL.appT {ops : Array Oper} {rest : List Oper} {o : Oper} {a : Act} {w : World} {Q : Exit → Act → World → Prop} (hw : Region.wanted o (yielded ops a.tmps) = true) (s x : Operand)
  (ho : o.op = .call { callee := .builtin .append, args := #[s, x], argTypes := #[85, 85] }) (v : Value) (l : List ByteArray) (g c : Nat) (y : ByteArray)
  (hs : a.eval s = v) (hx : a.eval x = .slice (some ⟨g, 0, none⟩) 1 c) (hown : OwnS w v l) (hg : Blk w g 9 #[.string y]) (hb : l.length ≤ 1000000000000)
  (h : ∀ v' w', OwnS w' v' (l ++ [y]) → (Grown w w' fun k => v.ownBlock = some k) → Moved w v v' → WL Tryz.prog ops Q rest (a.put o.dst v') w') : WL Tryz.prog ops Q (o :: rest) a w :=
 ⟨wpList_wanted hw fun K hK => by
  obtain ⟨v', w', hr, h1, h2, h3⟩ := run_appT w o.type v l hown g c y hg hb
  unfold Oper.wp execOp
  simp only [ho, resolve, invoke, builtin, Sem.run_bind, Sem.run_pure, Result.andThen_ok, List.map_toArray, List.map_cons, List.map_nil, hs, hx, hr]
  exact hK _ _ (h v' w' h1 h2 h3).out⟩
theorem bsT (s : ByteArray) (w : World) : (Instr.buildSlice 85 1 #[(0, .string s)]).run Tryz.prog w = .ok (.slice (some ⟨w.heap.size, 0, none⟩) 1 1) (w.alloc (.cells #[.string s] 9)) := by kernel_rfl
theorem bsTE (w : World) : (Instr.buildSlice 85 0 #[]).run Tryz.prog w = .ok (.slice (some ⟨w.heap.size, 0, none⟩) 0 0) (w.alloc (.cells #[] 9)) := by kernel_rfl
set_option maxRecDepth 8000 in
set_option maxHeartbeats 2000000 in
theorem names_any (d p : Nat) (vf : Value) (cs : List FC) (D : DV) (w : World) (hDk : Blk w d 67 #[ptr p]) (hD : DskAt w p vf cs D) (hO : D.out = false) (hL : cs.length ≤ 1000000) :
  Calls Tryz.prog 44 #[ptr d] w fun e w' => ∃ v, e = .returned (.tuple #[v, .int .i64 0]) ∧ OwnS w' v (D.fs.map PF.nm) ∧ NewF w.heap.size v ∧ Below w.heap.size w w' := by
 obtain ⟨va, vc, rfl⟩ := hD.own.sl
 have HDk := Keep.mk hDk
 have HD := Keep.mk hD
 have HO := Keep.mk hO
 have HL := Keep.mk hL
 clear hDk hD hO hL
 go_enter Tryz.func44, Tryz.ntmps44
 have cd := HDk.out.c 0 (by rfl : (#[ptr p] : Array Value)[0]? = some (ptr p))
 have c4 : w.cell? ⟨p, 4, none⟩ = some (.bool false) := by have h := HD.out.blk.c 4 (by rfl : (stA (.slice va cs.length vc) D)[4]? = some (.bool D.out)); rw [HO.out] at h; exact h
 refine wp_seq_k fun K1 hK1 => rgn ?_
 refine VlS (.slice none 0 0) ?_
 refine VlS (.int .i64 0) ?_
 refine WL.nil (hK1 _ _ ?_)
 refine wp_seq_k fun K2 hK2 => rgn ?_
 refine VlS (.pointer (some ⟨d, 0, none⟩)) ?_
 refine VlS (.pointer (some ⟨d, 0, none⟩)) ?_
 refine VlS (.pointer (some ⟨d, 0, none⟩)) ?_
 refine VlS (.pointer (some ⟨p, 0, none⟩)) ?_
 refine VlS (.pointer (some ⟨p, 0, none⟩)) ?_
 refine WL.nil (hK2 _ _ ?_)
 refine wp_seq_k fun K3 hK3 => ?_
 refine wp_seq_k fun K4 hK4 => rgn ?_
 refine VlS (.pointer (some ⟨p, 0, none⟩)) ?_
 refine VlS (.pointer (some ⟨p, 0, none⟩)) ?_
 refine VlS (.pointer (some ⟨p, 4, none⟩)) ?_
 refine VbF ?_
 refine WL.nil (hK4 _ _ ?_)
 refine wp_cond_false rfl ?_
 refine wp_skip ?_
 refine hK3 _ _ ?_
 refine wp_seq_k fun K5 hK5 => rgn ?_
 refine WL.bs (by kernel_rfl) 85 0 _ rfl #[] (by simp) _ _ (bsTE w) ?_
 have HN1 := Keep.mk (ownS_empty w)
 have B1 := Keep.mk (below_new w (.cells #[] 9))
 clear cd c4
 generalize w.alloc (.cells #[] 9) = w1 at *
 obtain ⟨g1, hg1⟩ : ∃ g, Keep (g = w.heap.size) := ⟨_, ⟨rfl⟩⟩
 rw [← hg1.out] at HN1 ⊢
 have N1 : Keep (NewF w.heap.size (.slice (some ⟨g1, 0, none⟩) 0 0)) := ⟨NewF.at (by rw [hg1.out]; exact Nat.le_refl _)⟩
 have p0 := (HD.out.blk.below B1.out HD.out.blk.lt).c 0 (by rfl : (stA (.slice va cs.length vc) D)[0]? = some (.slice va cs.length vc))
 simp only [Act.put, pqA, pqB, pqC]
 refine VlS (.slice (some ⟨g1, 0, none⟩) 0 0) ?_
 refine WL.nil (hK5 _ _ ?_)
 refine wp_seq_k fun K6 hK6 => ?_
 refine wp_seq_k fun K7 hK7 => rgn ?_
 refine VlS (.pointer (some ⟨p, 0, none⟩)) ?_
 refine VlS (.pointer (some ⟨p, 0, none⟩)) ?_
 refine VlS (.pointer (some ⟨p, 0, none⟩)) ?_
 refine VlS (.slice va cs.length vc) ?_
 refine VlS (.int .i64 (cs.length : Int)) ?_
 refine VlS (.int .i64 0) ?_
 refine WL.nil (hK7 _ _ ?_)
 refine wp_block ?_
 refine wp_loop (fun ac wr => ∃ (t : Nat) (f : Nat → Value) (xa : Option Addr) (xl xc : Nat), ac = { tmps := #[.pointer (some ⟨d, 0, none⟩), undef, .slice none 0 0, .int .i64 0, .pointer (some ⟨p, 0, none⟩), .slice xa xl xc, undef, f 7, .pointer (some ⟨d, 0, none⟩), .pointer (some ⟨d, 0, none⟩), .pointer (some ⟨d, 0, none⟩), .pointer (some ⟨p, 0, none⟩), .pointer (some ⟨p, 0, none⟩), .pointer (some ⟨p, 0, none⟩), .pointer (some ⟨p, 4, none⟩), .bool false, .slice (some ⟨g1, 0, none⟩) 0 0, .pointer (some ⟨p, 0, none⟩), .pointer (some ⟨p, 0, none⟩), .pointer (some ⟨p, 0, none⟩), .slice va cs.length vc, .int .i64 (cs.length : Int), .int .i64 (t : Int), f 23, f 24, f 25, f 26, f 27, f 28, f 29, f 30, f 31, undef], defers := [] } ∧ t ≤ cs.length ∧ OwnS wr (.slice xa xl xc) ((D.fs.take t).map PF.nm) ∧ NewF w.heap.size (.slice xa xl xc) ∧ Below w.heap.size w wr) (fun a _ => cs.length - (intOf (a.tmps.getD 22 undef)).toNat) ⟨0, fun i => [.pointer (some ⟨d, 0, none⟩), undef, .slice none 0 0, .int .i64 0, .pointer (some ⟨p, 0, none⟩), .slice (some ⟨g1, 0, none⟩) 0 0, undef, undef, .pointer (some ⟨d, 0, none⟩), .pointer (some ⟨d, 0, none⟩), .pointer (some ⟨d, 0, none⟩), .pointer (some ⟨p, 0, none⟩), .pointer (some ⟨p, 0, none⟩), .pointer (some ⟨p, 0, none⟩), .pointer (some ⟨p, 4, none⟩), .bool false, .slice (some ⟨g1, 0, none⟩) 0 0, .pointer (some ⟨p, 0, none⟩), .pointer (some ⟨p, 0, none⟩), .pointer (some ⟨p, 0, none⟩), .slice va cs.length vc, .int .i64 (cs.length : Int), .int .i64 0, undef, undef, undef, undef, undef, undef, undef, undef, undef, undef].getD i undef, some ⟨g1, 0, none⟩, 0, 0, rfl, Nat.zero_le _, HN1.out, N1.out, B1.out⟩ ?_
 clear p0
 rintro ac wr ⟨t, f, xa, xl, xc, rfl, ht, hO1, hO3, hO4⟩
 have JO := Keep.mk hO1
 have JN := Keep.mk hO3
 have JB := Keep.mk hO4
 clear hO1 hO3 hO4
 by_cases hlt : t < cs.length
 ·have hlt' : (t : Int) < (cs.length : Int) := by omega
  have hwt : IntKind.i64.wrap ((t : Int) + 1) = (t : Int) + 1 := by rw [IntKind.wrap_i64]; have := HL.out; omega
  obtain ⟨x, hx⟩ : ∃ x, cs[t]? = some x := ⟨cs[t], List.getElem?_eq_getElem hlt⟩
  obtain ⟨f_, hf_⟩ : ∃ f, D.fs[t]? = some f := ⟨D.fs[t]'(by have := HD.out.fcs.len; omega), List.getElem?_eq_getElem _⟩
  have JD : Keep (DskAt wr p (.slice va cs.length vc) cs D) := ⟨HD.out.below JB.out⟩
  obtain ⟨g, ha, hrg⟩ := JD.out.own.at hx
  subst ha
  have HRg := Keep.mk hrg
  have Hnm : Keep (x.nm = f_.nm) := ⟨(JD.out.fcs.each t x f_ hx hf_).1⟩
  have Hsl : Keep (SlF x) := ⟨(JD.out.fcs.each t x f_ hx hf_).sl⟩
  have HTk : Keep ((D.fs.take (t + 1)).map PF.nm = (D.fs.take t).map PF.nm ++ [f_.nm]) := ⟨by rw [List.take_add_one, hf_]; simp⟩
  clear hrg hx hf_
  refine wp_seq_k fun K8 hK8 => rgn ?_
  refine VbT ?_
  refine WL.nil (hK8 _ _ ?_)
  refine wp_seq_k fun K9 hK9 => ?_
  refine wp_cond_true rfl ?_
  refine wp_skip ?_
  refine hK9 _ _ ?_
  refine wp_seq_k fun K10 hK10 => ?_
  refine wp_block ?_
  refine wp_seq_k fun K11 hK11 => rgn ?_
  refine VlS (.pointer (some ⟨g, t * 3, none⟩)) ?_
  refine WL.mid (by kernel_rfl) 49 (.tmp 24) rfl g (t * 3) rfl (fA x).toList _ HRg.out Tryz.underlying49 rfl (Tryz.sizeFL x) ?_
  rw [fA_back]
  simp only [Act.put, pqA, pqB, pqC]
  refine WL.new (by kernel_rfl) 49 rfl _ Tryz.newF ?_
  have HN := Keep.mk (Blk.new wr 49 (fA zeroF))
  have BN := Keep.mk (below_new wr (.cells (fA zeroF) 49))
  generalize wr.alloc (.cells (fA zeroF) 49) = wa at *
  obtain ⟨g7, hg7⟩ : ∃ g, Keep (g = wr.heap.size) := ⟨_, ⟨rfl⟩⟩
  rw [← hg7.out] at HN ⊢
  simp only [Act.put, pqA, pqB, pqC]
  refine WL.storeR (by kernel_rfl) 49 (.tmp 7) (.tmp 25) rfl g7 (fA x) rfl rfl 49 (fA zeroF) HN.out (Tryz.sizeFB x) rfl Hsl.out.one ?_
  have H7 := Keep.mk (HN.out.setRow (fA x))
  have B7 := Keep.mk (below_setRow BN.out (b := g7) (by rw [hg7.out]; exact Nat.le_refl _) (fA x))
  generalize wa.setRow g7 (fA x) = wb at *
  have JBb : Keep (Below w.heap.size w wb) := ⟨JB.out.trans (B7.out.mono JB.out.size)⟩
  have JOb := Keep.mk (JO.out.below B7.out)
  clear HN BN hg7 HRg JD JB B7 JO
  obtain ⟨nx, hnx⟩ : ∃ nx, nx = x.nm := ⟨_, rfl⟩
  have c7 := H7.out.c 0 (by rw [hnx]; rfl : (fA x)[0]? = some (.string nx))
  rw [← hnx] at Hnm
  clear hnx
  simp only [Act.put]
  refine WL.nil (hK11 _ _ ?_)
  refine rgn ?_
  refine VlS (.slice xa xl xc) ?_
  refine VlS (.pointer (some ⟨g7, 0, none⟩)) ?_
  refine VlS (.string nx) ?_
  refine WL.bs (by kernel_rfl) 85 1 _ rfl #[(0, .string nx)] (by simp [Act.eval]) _ _ (bsT nx wb) ?_
  have hbx := below_new wb (.cells #[.string nx] 9)
  have HB := Keep.mk (Blk.new wb 9 #[.string nx])
  have JOc := Keep.mk (JOb.out.below hbx)
  have JBc : Keep (Below w.heap.size w (wb.alloc (.cells #[.string nx] 9))) := ⟨JBb.out.trans (hbx.mono JBb.out.size)⟩
  clear hbx c7 JOb JBb
  generalize wb.alloc (.cells #[.string nx] 9) = wc at *
  obtain ⟨gc, hgc⟩ : ∃ q, Keep (q = wb.heap.size) := ⟨_, ⟨rfl⟩⟩
  rw [← hgc.out] at HB ⊢
  simp only [Act.put, pqA, pqB, pqC]
  refine WL.appT (by kernel_rfl) (.tmp 26) (.tmp 29) rfl (.slice xa xl xc) ((D.fs.take t).map PF.nm) gc 1 nx rfl rfl JOc.out HB.out (by have := HL.out; have := HD.out.fcs.len; simp; omega) fun v6 wd ho hg hm => ?_
  have HO6 : Keep (OwnS wd v6 ((D.fs.take (t + 1)).map PF.nm)) := ⟨by rw [HTk.out, ← Hnm.out]; exact ho⟩
  have N6 : Keep (NewF w.heap.size v6) := ⟨NewF.moved JN.out JBc.out.size hm⟩
  have B6 : Keep (Below w.heap.size w wd) := ⟨newF_below JN.out JBc.out hg⟩
  clear ho hg hm
  obtain ⟨a6, k6, e6⟩ := HO6.out.sl
  subst e6
  obtain ⟨n6, hn6⟩ : ∃ q, Keep (q = ((D.fs.take (t + 1)).map PF.nm).length) := ⟨_, ⟨rfl⟩⟩
  rw [← hn6.out] at HO6 N6 ⊢
  simp only [Act.put, pqA, pqB, pqC]
  refine VlS (.slice a6 n6 k6) ?_
  refine WL.nil (hK10 _ _ ?_)
  refine rgn ?_
  refine VlS (.int .i64 ((t : Int) + 1)) ?_
  refine VlS (.int .i64 ((t : Int) + 1)) ?_
  refine WL.nil ?_
  refine ⟨⟨t + 1, fun i => [.pointer (some ⟨d, 0, none⟩), undef, .slice none 0 0, .int .i64 0, .pointer (some ⟨p, 0, none⟩), .slice a6 n6 k6, undef, .pointer (some ⟨g7, 0, none⟩), .pointer (some ⟨d, 0, none⟩), .pointer (some ⟨d, 0, none⟩), .pointer (some ⟨d, 0, none⟩), .pointer (some ⟨p, 0, none⟩), .pointer (some ⟨p, 0, none⟩), .pointer (some ⟨p, 0, none⟩), .pointer (some ⟨p, 4, none⟩), .bool false, .slice (some ⟨g1, 0, none⟩) 0 0, .pointer (some ⟨p, 0, none⟩), .pointer (some ⟨p, 0, none⟩), .pointer (some ⟨p, 0, none⟩), .slice (some ⟨g, 0, none⟩) cs.length vc, .int .i64 (cs.length : Int), .int .i64 ((t : Int) + 1), .bool true, .pointer (some ⟨g, t * 3, none⟩), .agg (fA x), .slice xa xl xc, .pointer (some ⟨g7, 0, none⟩), .string nx, .slice (some ⟨gc, 0, none⟩) 1 1, .slice a6 n6 k6, .int .i64 ((t : Int) + 1), undef].getD i undef, a6, n6, k6, rfl, by omega, HO6.out, N6.out, B6.out⟩, ?_⟩
  simp only [intOf]; show cs.length - ((t : Int) + 1).toNat < cs.length - ((t : Int)).toNat; omega
 ·have hlt' : ¬ (t : Int) < (cs.length : Int) := by omega
  have hte : Keep (t = cs.length) := ⟨by omega⟩
  refine wp_seq_k fun K12 hK12 => rgn ?_
  refine VbF ?_
  refine WL.nil (hK12 _ _ ?_)
  refine wp_seq_k fun K13 hK13 => ?_
  refine wp_cond_false rfl ?_
  refine wp_exit ?_
  refine hK6 _ _ ?_
  refine wp_seq_k fun K14 hK14 => rgn ?_
  refine VlS (.slice xa xl xc) ?_
  refine VlS (.slice xa xl xc) ?_
  refine VlS (.int .i64 0) ?_
  refine WL.nil (hK14 _ _ ?_)
  refine wp_ret ?_
  go_ret2
  refine ⟨_, rfl, ?_, JN.out, JB.out⟩
  have h := JO.out
  rw [List.take_of_length_le (by have := HD.out.fcs.len; have := hte.out; omega)] at h
  exact h
set_option maxRecDepth 8000 in
theorem app_name (d p : Nat) (n : ByteArray) (v vf : Value) (l : List Int) (cs : List FC) (D : DV) (w : World) (hDk : Blk w d 67 #[ptr p]) (hD : DskAt w p vf cs D) (hO : D.out = false) (hR : RowAt w v l) (hRg : rgt n = false) : Calls Tryz.prog 15 #[ptr d, .string n, v] w fun e w' => e = .returned (.int .i64 1) ∧ Below w.heap.size w w' := by
 obtain ⟨va, vc, rfl⟩ := hD.own.sl
 have HDk := Keep.mk hDk
 have HD := Keep.mk hD
 have HO := Keep.mk hO
 obtain ⟨ba, bc, rfl⟩ := row_form hR
 have HRg := Keep.mk hRg
 clear hDk hD hO hR hRg
 go_enter Tryz.func15, Tryz.ntmps15
 have cd := HDk.out.c 0 (by rfl : (#[ptr p] : Array Value)[0]? = some (ptr p))
 have c4 : w.cell? ⟨p, 4, none⟩ = some (.bool false) := by have h := HD.out.blk.c 4 (by rfl : (stA (.slice va cs.length vc) D)[4]? = some (.bool D.out)); rw [HO.out] at h; exact h
 refine wp_seq_k fun K1 hK1 => rgn ?_
 refine VlS (.int .i64 0) ?_
 refine WL.nil (hK1 _ _ ?_)
 refine wp_seq_k fun K2 hK2 => rgn ?_
 refine VlS (.pointer (some ⟨d, 0, none⟩)) ?_
 refine VlS (.pointer (some ⟨d, 0, none⟩)) ?_
 refine VlS (.pointer (some ⟨d, 0, none⟩)) ?_
 refine VlS (.pointer (some ⟨p, 0, none⟩)) ?_
 refine VlS (.pointer (some ⟨p, 0, none⟩)) ?_
 refine WL.nil (hK2 _ _ ?_)
 refine wp_seq_k fun K3 hK3 => ?_
 refine wp_seq_k fun K4 hK4 => rgn ?_
 refine VlS (.pointer (some ⟨p, 0, none⟩)) ?_
 refine VlS (.pointer (some ⟨p, 0, none⟩)) ?_
 refine VlS (.pointer (some ⟨p, 4, none⟩)) ?_
 refine VbF ?_
 refine WL.nil (hK4 _ _ ?_)
 refine wp_cond_false rfl ?_
 refine wp_skip ?_
 refine hK3 _ _ ?_
 refine wp_seq_k fun K5 hK5 => ?_
 refine wp_seq_k fun K6 hK6 => rgn ?_
 refine VlS (.string n) ?_
 clear cd c4
 have hrt := right_any n w
 rw [HRg.out] at hrt
 refine WL.callF (by kernel_rfl) 26 _ _ rfl Tryz.in26 #[.string n] (by simp [Act.eval]) ?_
 refine (hrt).mono ?_
 rintro e wz ⟨rfl, hz⟩
 refine ⟨_, rfl, ?_⟩
 subst hz
 clear hrt
 simp only [Act.put, pqA, pqB, pqC]
 refine VbT ?_
 refine WL.nil (hK6 _ _ ?_)
 refine wp_cond_true rfl ?_
 refine wp_seq_k fun K7 hK7 => rgn ?_
 refine VlS (.int .i64 1) ?_
 refine WL.nil (hK7 _ _ ?_)
 refine wp_ret ?_
 go_ret
 exact ⟨rfl, Below.refl _ _⟩
set_option maxRecDepth 8000 in
theorem app_many (i : Nat) (d p : Nat) (n : ByteArray) (v vf : Value) (l : List Int) (cs : List FC) (D : DV) (w : World) (hDk : Blk w d 67 #[ptr p]) (hD : DskAt w p vf cs D) (hO : D.out = false) (hR : RowAt w v l) (hRg : rgt n = true) (hF : fnd n D.fs 0 = (i, false)) (hM : 256 ≤ cs.length) (hL : cs.length ≤ 1000000) : Calls Tryz.prog 15 #[ptr d, .string n, v] w fun e w' => e = .returned (.int .i64 3) ∧ Below w.heap.size w w' := by
 obtain ⟨va, vc, rfl⟩ := hD.own.sl
 have HDk := Keep.mk hDk
 have HD := Keep.mk hD
 have HO := Keep.mk hO
 obtain ⟨ba, bc, rfl⟩ := row_form hR
 have HRg := Keep.mk hRg
 have HF := Keep.mk hF
 have HM := Keep.mk hM
 have HL := Keep.mk hL
 clear hDk hD hO hR hRg hF hM hL
 go_enter Tryz.func15, Tryz.ntmps15
 have cd := HDk.out.c 0 (by rfl : (#[ptr p] : Array Value)[0]? = some (ptr p))
 have c4 : w.cell? ⟨p, 4, none⟩ = some (.bool false) := by have h := HD.out.blk.c 4 (by rfl : (stA (.slice va cs.length vc) D)[4]? = some (.bool D.out)); rw [HO.out] at h; exact h
 have hge : (256 : Int) ≤ (cs.length : Int) := by have := HM.out; omega
 refine wp_seq_k fun K1 hK1 => rgn ?_
 refine VlS (.int .i64 0) ?_
 refine WL.nil (hK1 _ _ ?_)
 refine wp_seq_k fun K2 hK2 => rgn ?_
 refine VlS (.pointer (some ⟨d, 0, none⟩)) ?_
 refine VlS (.pointer (some ⟨d, 0, none⟩)) ?_
 refine VlS (.pointer (some ⟨d, 0, none⟩)) ?_
 refine VlS (.pointer (some ⟨p, 0, none⟩)) ?_
 refine VlS (.pointer (some ⟨p, 0, none⟩)) ?_
 refine WL.nil (hK2 _ _ ?_)
 refine wp_seq_k fun K3 hK3 => ?_
 refine wp_seq_k fun K4 hK4 => rgn ?_
 refine VlS (.pointer (some ⟨p, 0, none⟩)) ?_
 refine VlS (.pointer (some ⟨p, 0, none⟩)) ?_
 refine VlS (.pointer (some ⟨p, 4, none⟩)) ?_
 refine VbF ?_
 refine WL.nil (hK4 _ _ ?_)
 refine wp_cond_false rfl ?_
 refine wp_skip ?_
 refine hK3 _ _ ?_
 refine wp_seq_k fun K5 hK5 => ?_
 refine wp_seq_k fun K6 hK6 => rgn ?_
 refine VlS (.string n) ?_
 clear cd c4
 have hrt := right_any n w
 rw [HRg.out] at hrt
 refine WL.callF (by kernel_rfl) 26 _ _ rfl Tryz.in26 #[.string n] (by simp [Act.eval]) ?_
 refine (hrt).mono ?_
 rintro e wz ⟨rfl, hz⟩
 refine ⟨_, rfl, ?_⟩
 subst hz
 clear hrt
 simp only [Act.put, pqA, pqB, pqC]
 refine VbF ?_
 refine WL.nil (hK6 _ _ ?_)
 refine wp_cond_false rfl ?_
 refine wp_skip ?_
 refine hK5 _ _ ?_
 refine wp_seq_k fun K7 hK7 => rgn ?_
 refine VlS (.pointer (some ⟨p, 0, none⟩)) ?_
 refine VlS (.string n) ?_
 have hfd := find_any p n _ cs D wz HD.out (by have := HL.out; omega)
 rw [HF.out] at hfd
 refine WL.callF (by kernel_rfl) 25 _ _ rfl Tryz.in25 #[ptr p, .string n] (by simp [Act.eval]) ?_
 refine (hfd).mono ?_
 rintro e w1 ⟨rfl, hb1⟩
 refine ⟨_, rfl, ?_⟩
 have HD1 := Keep.mk (HD.out.below hb1)
 have B1 := Keep.mk hb1
 have c0 := HD1.out.blk.c 0 (by rfl : (stA (.slice va cs.length vc) D)[0]? = some (.slice va cs.length vc))
 clear hb1 hfd
 simp only [Act.put, pqA, pqB, pqC]
 refine VlS (.tuple #[.int .i64 (i : Int), .bool false]) ?_
 refine VlS (.int .i64 (i : Int)) ?_
 refine VbF ?_
 refine VlS (.int .i64 (i : Int)) ?_
 refine VbF ?_
 refine WL.nil (hK7 _ _ ?_)
 refine wp_seq_k fun K8 hK8 => ?_
 refine wp_seq_k fun K9 hK9 => rgn ?_
 refine VbF ?_
 refine VbT ?_
 refine VbT ?_
 refine VlS (.pointer (some ⟨p, 0, none⟩)) ?_
 refine VlS (.pointer (some ⟨p, 0, none⟩)) ?_
 refine VlS (.pointer (some ⟨p, 0, none⟩)) ?_
 refine VlS (.slice va cs.length vc) ?_
 refine VlS (.int .i64 (cs.length : Int)) ?_
 refine VbT ?_
 refine VbT ?_
 refine WL.nil (hK9 _ _ ?_)
 refine wp_cond_true rfl ?_
 refine wp_seq_k fun K10 hK10 => rgn ?_
 refine VlS (.int .i64 3) ?_
 refine WL.nil (hK10 _ _ ?_)
 refine wp_ret ?_
 go_ret
 exact ⟨rfl, B1.out⟩
set_option maxRecDepth 8000 in
theorem app_room_new (i : Nat) (d p : Nat) (n : ByteArray) (v vf : Value) (l : List Int) (cs : List FC) (D : DV) (w : World) (hDk : Blk w d 67 #[ptr p]) (hD : DskAt w p vf cs D) (hO : D.out = false) (hR : RowAt w v l) (hRg : rgt n = true) (hF : fnd n D.fs 0 = (i, false)) (hM : cs.length < 256) (hL : cs.length ≤ 1000000) (hU : 0 ≤ D.used ∧ D.used ≤ D.room ∧ D.room ≤ 9223372036854775807 ∧ D.room - D.used < (l.length : Int)) : Calls Tryz.prog 15 #[ptr d, .string n, v] w fun e w' => e = .returned (.int .i64 8) ∧ Below w.heap.size w w' := by
 obtain ⟨va, vc, rfl⟩ := hD.own.sl
 have HDk := Keep.mk hDk
 have HD := Keep.mk hD
 have HO := Keep.mk hO
 obtain ⟨ba, bc, rfl⟩ := row_form hR
 have HRg := Keep.mk hRg
 have HF := Keep.mk hF
 have HM := Keep.mk hM
 have HL := Keep.mk hL
 have HU := Keep.mk hU
 clear hDk hD hO hR hRg hF hM hL hU
 go_enter Tryz.func15, Tryz.ntmps15
 have cd := HDk.out.c 0 (by rfl : (#[ptr p] : Array Value)[0]? = some (ptr p))
 have c4 : w.cell? ⟨p, 4, none⟩ = some (.bool false) := by have h := HD.out.blk.c 4 (by rfl : (stA (.slice va cs.length vc) D)[4]? = some (.bool D.out)); rw [HO.out] at h; exact h
 have hlt : ¬ (256 : Int) ≤ (cs.length : Int) ∨ True := .inr trivial
 clear hlt
 have hlt : (cs.length : Int) < 256 := by have := HM.out; omega
 refine wp_seq_k fun K1 hK1 => rgn ?_
 refine VlS (.int .i64 0) ?_
 refine WL.nil (hK1 _ _ ?_)
 refine wp_seq_k fun K2 hK2 => rgn ?_
 refine VlS (.pointer (some ⟨d, 0, none⟩)) ?_
 refine VlS (.pointer (some ⟨d, 0, none⟩)) ?_
 refine VlS (.pointer (some ⟨d, 0, none⟩)) ?_
 refine VlS (.pointer (some ⟨p, 0, none⟩)) ?_
 refine VlS (.pointer (some ⟨p, 0, none⟩)) ?_
 refine WL.nil (hK2 _ _ ?_)
 refine wp_seq_k fun K3 hK3 => ?_
 refine wp_seq_k fun K4 hK4 => rgn ?_
 refine VlS (.pointer (some ⟨p, 0, none⟩)) ?_
 refine VlS (.pointer (some ⟨p, 0, none⟩)) ?_
 refine VlS (.pointer (some ⟨p, 4, none⟩)) ?_
 refine VbF ?_
 refine WL.nil (hK4 _ _ ?_)
 refine wp_cond_false rfl ?_
 refine wp_skip ?_
 refine hK3 _ _ ?_
 refine wp_seq_k fun K5 hK5 => ?_
 refine wp_seq_k fun K6 hK6 => rgn ?_
 refine VlS (.string n) ?_
 clear cd c4
 have hrt := right_any n w
 rw [HRg.out] at hrt
 refine WL.callF (by kernel_rfl) 26 _ _ rfl Tryz.in26 #[.string n] (by simp [Act.eval]) ?_
 refine (hrt).mono ?_
 rintro e wz ⟨rfl, hz⟩
 refine ⟨_, rfl, ?_⟩
 subst hz
 clear hrt
 simp only [Act.put, pqA, pqB, pqC]
 refine VbF ?_
 refine WL.nil (hK6 _ _ ?_)
 refine wp_cond_false rfl ?_
 refine wp_skip ?_
 refine hK5 _ _ ?_
 refine wp_seq_k fun K7 hK7 => rgn ?_
 refine VlS (.pointer (some ⟨p, 0, none⟩)) ?_
 refine VlS (.string n) ?_
 have hfd := find_any p n _ cs D wz HD.out (by have := HL.out; omega)
 rw [HF.out] at hfd
 refine WL.callF (by kernel_rfl) 25 _ _ rfl Tryz.in25 #[ptr p, .string n] (by simp [Act.eval]) ?_
 refine (hfd).mono ?_
 rintro e w1 ⟨rfl, hb1⟩
 refine ⟨_, rfl, ?_⟩
 have HD1 := Keep.mk (HD.out.below hb1)
 have B1 := Keep.mk hb1
 have c0 := HD1.out.blk.c 0 (by rfl : (stA (.slice va cs.length vc) D)[0]? = some (.slice va cs.length vc))
 clear hb1 hfd
 simp only [Act.put, pqA, pqB, pqC]
 refine VlS (.tuple #[.int .i64 (i : Int), .bool false]) ?_
 refine VlS (.int .i64 (i : Int)) ?_
 refine VbF ?_
 refine VlS (.int .i64 (i : Int)) ?_
 refine VbF ?_
 refine WL.nil (hK7 _ _ ?_)
 refine wp_seq_k fun K8 hK8 => ?_
 refine wp_seq_k fun K9 hK9 => rgn ?_
 refine VbF ?_
 refine VbT ?_
 refine VbT ?_
 refine VlS (.pointer (some ⟨p, 0, none⟩)) ?_
 refine VlS (.pointer (some ⟨p, 0, none⟩)) ?_
 refine VlS (.pointer (some ⟨p, 0, none⟩)) ?_
 refine VlS (.slice va cs.length vc) ?_
 refine VlS (.int .i64 (cs.length : Int)) ?_
 refine VbF ?_
 refine VbF ?_
 refine WL.nil (hK9 _ _ ?_)
 refine wp_cond_false rfl ?_
 refine wp_skip ?_
 refine hK8 _ _ ?_
 refine wp_seq_k fun K10 hK10 => ?_
 refine wp_seq_k fun K11 hK11 => ?_
 have hS0 : Keep (w1.drew.cell? ⟨p, 1, none⟩ = some (.int .i64 D.room) ∧ w1.drew.cell? ⟨p, 2, none⟩ = some (.int .i64 D.used)) := ⟨HD1.out.blk.drew.c 1 rfl, HD1.out.blk.drew.c 2 rfl⟩
 have hwr : IntKind.i64.wrap (D.room - D.used) = D.room - D.used := by rw [IntKind.wrap_i64]; have := HU.out; omega
 have hle : D.room - D.used < (l.length : Int) := by have := HU.out; omega
 refine wp_region_held_drew (S := fun wx => wx.cell? ⟨p, 1, none⟩ = some (.int .i64 D.room) ∧ wx.cell? ⟨p, 2, none⟩ = some (.int .i64 D.used)) (by kernel_rfl) (hS0.out) (fun hHeld => ?_)
 refine TkJ (i := 0) (oi := ⟨some 38, Op.move (Operand.tmp 2), 40, _, _, none⟩) (v := .slice ba l.length bc) rfl hHeld ?_
 refine TkJ (i := 1) (oi := ⟨some 39, Op.call { callee := Callee.builtin Builtin.len, args := #[Operand.tmp 38], argTypes := #[40] }, 3, _, _, none⟩) (v := .int .i64 (l.length : Int)) rfl hHeld ?_
 refine TkJ (i := 2) (oi := ⟨some 40, Op.move (Operand.tmp 7), 65, _, _, none⟩) (v := .pointer (some ⟨p, 0, none⟩)) rfl hHeld ?_
 refine TkJ (i := 3) (oi := ⟨some 41, Op.nilCheck (Operand.tmp 40), 0, _, _, none⟩) (v := .pointer (some ⟨p, 0, none⟩)) rfl hHeld ?_
 refine TkJ (i := 4) (oi := ⟨some 42, Op.fieldAddr 71 (Operand.tmp 41) 1, 0, _, _, none⟩) (v := .pointer (some ⟨p, 1, none⟩)) rfl hHeld ?_
 refine TkJ (i := 5) (oi := ⟨some 43, Op.load 3 (Operand.tmp 42), 3, _, _, none⟩) (v := .int .i64 D.room) rfl hHeld ?_
 refine TkJ (i := 6) (oi := ⟨some 44, Op.move (Operand.tmp 7), 65, _, _, none⟩) (v := .pointer (some ⟨p, 0, none⟩)) rfl hHeld ?_
 refine TkJ (i := 7) (oi := ⟨some 45, Op.nilCheck (Operand.tmp 44), 0, _, _, none⟩) (v := .pointer (some ⟨p, 0, none⟩)) rfl hHeld ?_
 refine TkJ (i := 8) (oi := ⟨some 46, Op.fieldAddr 71 (Operand.tmp 45) 2, 0, _, _, none⟩) (v := .pointer (some ⟨p, 2, none⟩)) rfl hHeld ?_
 refine TkJ (i := 9) (oi := ⟨some 47, Op.load 3 (Operand.tmp 46), 3, _, _, none⟩) (v := .int .i64 D.used) rfl hHeld ?_
 refine TkJ (i := 10) (oi := ⟨some 48, Op.binOp BinOp.sub 3 (Operand.tmp 43) (Operand.tmp 47) 3, 3, _, _, none⟩) (v := .int .i64 (D.room - D.used)) rfl hHeld ?_
 refine TkJ (i := 11) (oi := ⟨some 49, Op.binOp BinOp.gtr 3 (Operand.tmp 39) (Operand.tmp 48) 3, 4, _, _, none⟩) (v := .bool true) rfl hHeld ?_
 refine wpAnyH_done (by kernel_rfl) ?_ _
 refine hK11 _ _ ?_
 refine wp_cond_true rfl ?_
 refine wp_seq_k fun K12 hK12 => rgn ?_
 refine VlS (.int .i64 8) ?_
 refine WL.nil (hK12 _ _ ?_)
 refine wp_ret ?_
 go_ret
 exact ⟨rfl, B1.out.drew⟩
set_option maxRecDepth 8000 in
theorem app_room_is (i : Nat) (d p : Nat) (n : ByteArray) (v vf : Value) (l : List Int) (cs : List FC) (D : DV) (w : World) (hDk : Blk w d 67 #[ptr p]) (hD : DskAt w p vf cs D) (hO : D.out = false) (hR : RowAt w v l) (hRg : rgt n = true) (hF : fnd n D.fs 0 = (i, true)) (hM : cs.length ≤ 256) (hL : cs.length ≤ 1000000) (hU : 0 ≤ D.used ∧ D.used ≤ D.room ∧ D.room ≤ 9223372036854775807 ∧ D.room - D.used < (l.length : Int)) : Calls Tryz.prog 15 #[ptr d, .string n, v] w fun e w' => e = .returned (.int .i64 8) ∧ Below w.heap.size w w' := by
 obtain ⟨va, vc, rfl⟩ := hD.own.sl
 have HDk := Keep.mk hDk
 have HD := Keep.mk hD
 have HO := Keep.mk hO
 obtain ⟨ba, bc, rfl⟩ := row_form hR
 have HRg := Keep.mk hRg
 have HF := Keep.mk hF
 have HM := Keep.mk hM
 have HL := Keep.mk hL
 have HU := Keep.mk hU
 clear hDk hD hO hR hRg hF hM hL hU
 go_enter Tryz.func15, Tryz.ntmps15
 have cd := HDk.out.c 0 (by rfl : (#[ptr p] : Array Value)[0]? = some (ptr p))
 have c4 : w.cell? ⟨p, 4, none⟩ = some (.bool false) := by have h := HD.out.blk.c 4 (by rfl : (stA (.slice va cs.length vc) D)[4]? = some (.bool D.out)); rw [HO.out] at h; exact h
 have hlt : ¬ (256 : Int) ≤ (cs.length : Int) ∨ True := .inr trivial
 clear hlt
 refine wp_seq_k fun K1 hK1 => rgn ?_
 refine VlS (.int .i64 0) ?_
 refine WL.nil (hK1 _ _ ?_)
 refine wp_seq_k fun K2 hK2 => rgn ?_
 refine VlS (.pointer (some ⟨d, 0, none⟩)) ?_
 refine VlS (.pointer (some ⟨d, 0, none⟩)) ?_
 refine VlS (.pointer (some ⟨d, 0, none⟩)) ?_
 refine VlS (.pointer (some ⟨p, 0, none⟩)) ?_
 refine VlS (.pointer (some ⟨p, 0, none⟩)) ?_
 refine WL.nil (hK2 _ _ ?_)
 refine wp_seq_k fun K3 hK3 => ?_
 refine wp_seq_k fun K4 hK4 => rgn ?_
 refine VlS (.pointer (some ⟨p, 0, none⟩)) ?_
 refine VlS (.pointer (some ⟨p, 0, none⟩)) ?_
 refine VlS (.pointer (some ⟨p, 4, none⟩)) ?_
 refine VbF ?_
 refine WL.nil (hK4 _ _ ?_)
 refine wp_cond_false rfl ?_
 refine wp_skip ?_
 refine hK3 _ _ ?_
 refine wp_seq_k fun K5 hK5 => ?_
 refine wp_seq_k fun K6 hK6 => rgn ?_
 refine VlS (.string n) ?_
 clear cd c4
 have hrt := right_any n w
 rw [HRg.out] at hrt
 refine WL.callF (by kernel_rfl) 26 _ _ rfl Tryz.in26 #[.string n] (by simp [Act.eval]) ?_
 refine (hrt).mono ?_
 rintro e wz ⟨rfl, hz⟩
 refine ⟨_, rfl, ?_⟩
 subst hz
 clear hrt
 simp only [Act.put, pqA, pqB, pqC]
 refine VbF ?_
 refine WL.nil (hK6 _ _ ?_)
 refine wp_cond_false rfl ?_
 refine wp_skip ?_
 refine hK5 _ _ ?_
 refine wp_seq_k fun K7 hK7 => rgn ?_
 refine VlS (.pointer (some ⟨p, 0, none⟩)) ?_
 refine VlS (.string n) ?_
 have hfd := find_any p n _ cs D wz HD.out (by have := HL.out; omega)
 rw [HF.out] at hfd
 refine WL.callF (by kernel_rfl) 25 _ _ rfl Tryz.in25 #[ptr p, .string n] (by simp [Act.eval]) ?_
 refine (hfd).mono ?_
 rintro e w1 ⟨rfl, hb1⟩
 refine ⟨_, rfl, ?_⟩
 have HD1 := Keep.mk (HD.out.below hb1)
 have B1 := Keep.mk hb1
 have c0 := HD1.out.blk.c 0 (by rfl : (stA (.slice va cs.length vc) D)[0]? = some (.slice va cs.length vc))
 clear hb1 hfd
 simp only [Act.put, pqA, pqB, pqC]
 refine VlS (.tuple #[.int .i64 (i : Int), .bool true]) ?_
 refine VlS (.int .i64 (i : Int)) ?_
 refine VbT ?_
 refine VlS (.int .i64 (i : Int)) ?_
 refine VbT ?_
 refine WL.nil (hK7 _ _ ?_)
 refine wp_seq_k fun K8 hK8 => ?_
 refine wp_seq_k fun K9 hK9 => rgn ?_
 refine VbT ?_
 refine VbF ?_
 refine VbF ?_
 refine SkS ?_
 refine SkS ?_
 refine SkS ?_
 refine SkS ?_
 refine SkS ?_
 refine SkS ?_
 refine VbF ?_
 refine WL.nil (hK9 _ _ ?_)
 refine wp_cond_false rfl ?_
 refine wp_skip ?_
 refine hK8 _ _ ?_
 refine wp_seq_k fun K10 hK10 => ?_
 refine wp_seq_k fun K11 hK11 => ?_
 have hS0 : Keep (w1.drew.cell? ⟨p, 1, none⟩ = some (.int .i64 D.room) ∧ w1.drew.cell? ⟨p, 2, none⟩ = some (.int .i64 D.used)) := ⟨HD1.out.blk.drew.c 1 rfl, HD1.out.blk.drew.c 2 rfl⟩
 have hwr : IntKind.i64.wrap (D.room - D.used) = D.room - D.used := by rw [IntKind.wrap_i64]; have := HU.out; omega
 have hle : D.room - D.used < (l.length : Int) := by have := HU.out; omega
 refine wp_region_held_drew (S := fun wx => wx.cell? ⟨p, 1, none⟩ = some (.int .i64 D.room) ∧ wx.cell? ⟨p, 2, none⟩ = some (.int .i64 D.used)) (by kernel_rfl) (hS0.out) (fun hHeld => ?_)
 refine TkJ (i := 0) (oi := ⟨some 38, Op.move (Operand.tmp 2), 40, _, _, none⟩) (v := .slice ba l.length bc) rfl hHeld ?_
 refine TkJ (i := 1) (oi := ⟨some 39, Op.call { callee := Callee.builtin Builtin.len, args := #[Operand.tmp 38], argTypes := #[40] }, 3, _, _, none⟩) (v := .int .i64 (l.length : Int)) rfl hHeld ?_
 refine TkJ (i := 2) (oi := ⟨some 40, Op.move (Operand.tmp 7), 65, _, _, none⟩) (v := .pointer (some ⟨p, 0, none⟩)) rfl hHeld ?_
 refine TkJ (i := 3) (oi := ⟨some 41, Op.nilCheck (Operand.tmp 40), 0, _, _, none⟩) (v := .pointer (some ⟨p, 0, none⟩)) rfl hHeld ?_
 refine TkJ (i := 4) (oi := ⟨some 42, Op.fieldAddr 71 (Operand.tmp 41) 1, 0, _, _, none⟩) (v := .pointer (some ⟨p, 1, none⟩)) rfl hHeld ?_
 refine TkJ (i := 5) (oi := ⟨some 43, Op.load 3 (Operand.tmp 42), 3, _, _, none⟩) (v := .int .i64 D.room) rfl hHeld ?_
 refine TkJ (i := 6) (oi := ⟨some 44, Op.move (Operand.tmp 7), 65, _, _, none⟩) (v := .pointer (some ⟨p, 0, none⟩)) rfl hHeld ?_
 refine TkJ (i := 7) (oi := ⟨some 45, Op.nilCheck (Operand.tmp 44), 0, _, _, none⟩) (v := .pointer (some ⟨p, 0, none⟩)) rfl hHeld ?_
 refine TkJ (i := 8) (oi := ⟨some 46, Op.fieldAddr 71 (Operand.tmp 45) 2, 0, _, _, none⟩) (v := .pointer (some ⟨p, 2, none⟩)) rfl hHeld ?_
 refine TkJ (i := 9) (oi := ⟨some 47, Op.load 3 (Operand.tmp 46), 3, _, _, none⟩) (v := .int .i64 D.used) rfl hHeld ?_
 refine TkJ (i := 10) (oi := ⟨some 48, Op.binOp BinOp.sub 3 (Operand.tmp 43) (Operand.tmp 47) 3, 3, _, _, none⟩) (v := .int .i64 (D.room - D.used)) rfl hHeld ?_
 refine TkJ (i := 11) (oi := ⟨some 49, Op.binOp BinOp.gtr 3 (Operand.tmp 39) (Operand.tmp 48) 3, 4, _, _, none⟩) (v := .bool true) rfl hHeld ?_
 refine wpAnyH_done (by kernel_rfl) ?_ _
 refine hK11 _ _ ?_
 refine wp_cond_true rfl ?_
 refine wp_seq_k fun K12 hK12 => rgn ?_
 refine VlS (.int .i64 8) ?_
 refine WL.nil (hK12 _ _ ?_)
 refine wp_ret ?_
 go_ret
 exact ⟨rfl, B1.out.drew⟩
set_option maxRecDepth 8000 in
theorem cut_range (d p i : Nat) (m : Int) (n : ByteArray) (vf : Value) (cs : List FC) (D : DV) (f : PF) (w : World) (hDk : Blk w d 67 #[ptr p]) (hD : DskAt w p vf cs D) (hO : D.out = false) (hF : fnd n D.fs 0 = (i, true)) (hFi : D.fs[i]? = some f) (hL : cs.length ≤ 256) (hM : m < 0 ∨ (f.bs.length : Int) < m) : Calls Tryz.prog 32 #[ptr d, .string n, .int .i64 m] w fun e w' => e = .returned (.int .i64 2) ∧ Below w.heap.size w w' := by
 obtain ⟨va, vc, rfl⟩ := hD.own.sl
 have HDk := Keep.mk hDk
 have HD := Keep.mk hD
 have HO := Keep.mk hO
 have HF := Keep.mk hF
 have HFi := Keep.mk hFi
 have HL := Keep.mk hL
 have HM := Keep.mk hM
 clear hDk hD hO hF hFi hL hM
 go_enter Tryz.func32, Tryz.ntmps32
 have cd := HDk.out.c 0 (by rfl : (#[ptr p] : Array Value)[0]? = some (ptr p))
 have c4 : w.cell? ⟨p, 4, none⟩ = some (.bool false) := by have h := HD.out.blk.c 4 (by rfl : (stA (.slice va cs.length vc) D)[4]? = some (.bool D.out)); rw [HO.out] at h; exact h
 refine wp_seq_k fun K1 hK1 => rgn ?_
 refine VlS (.int .i64 0) ?_
 refine WL.nil (hK1 _ _ ?_)
 refine wp_seq_k fun K2 hK2 => rgn ?_
 refine VlS (.pointer (some ⟨d, 0, none⟩)) ?_
 refine VlS (.pointer (some ⟨d, 0, none⟩)) ?_
 refine VlS (.pointer (some ⟨d, 0, none⟩)) ?_
 refine VlS (.pointer (some ⟨p, 0, none⟩)) ?_
 refine VlS (.pointer (some ⟨p, 0, none⟩)) ?_
 refine WL.nil (hK2 _ _ ?_)
 refine wp_seq_k fun K3 hK3 => ?_
 refine wp_seq_k fun K4 hK4 => rgn ?_
 refine VlS (.pointer (some ⟨p, 0, none⟩)) ?_
 refine VlS (.pointer (some ⟨p, 0, none⟩)) ?_
 refine VlS (.pointer (some ⟨p, 4, none⟩)) ?_
 refine VbF ?_
 refine WL.nil (hK4 _ _ ?_)
 refine wp_cond_false rfl ?_
 refine wp_skip ?_
 refine hK3 _ _ ?_
 refine wp_seq_k fun K5 hK5 => rgn ?_
 refine VlS (.pointer (some ⟨p, 0, none⟩)) ?_
 refine VlS (.string n) ?_
 clear cd c4
 have hfd := find_any p n _ cs D w HD.out (by have := HL.out; omega)
 rw [HF.out] at hfd
 refine WL.callF (by kernel_rfl) 25 _ _ rfl Tryz.in25 #[ptr p, .string n] (by simp [Act.eval]) ?_
 refine (hfd).mono ?_
 rintro e w1 ⟨rfl, hb1⟩
 refine ⟨_, rfl, ?_⟩
 have B1 := Keep.mk hb1
 have HD1 := Keep.mk (HD.out.below hb1)
 clear hb1 hfd
 obtain ⟨f_, hf_⟩ : ∃ f, D.fs[i]? = some f := ⟨f, HFi.out⟩
 obtain rfl : f = f_ := Option.some.inj (HFi.out.symm.trans hf_)
 have hci : i < cs.length := by have h := HD1.out.fcs.len; have h2 := (List.getElem?_eq_some_iff.1 hf_).1; omega
 obtain ⟨x, hx⟩ : ∃ x, cs[i]? = some x := ⟨cs[i], List.getElem?_eq_getElem hci⟩
 obtain ⟨g, ha, hrg⟩ := HD1.out.own.at hx
 subst ha
 have hec := HD1.out.fcs.each i x f hx hf_
 obtain ⟨xn, xb, xs⟩ := x
 obtain ⟨xa, xc, hxb⟩ := row_form hec.2.2.row
 change xb = _ at hxb
 subst hxb
 have HXr : Keep (RowAt w1 (.slice xa f.bs.length xc) f.bs) := ⟨hec.2.2.row⟩
 have c1 : w1.cell? ⟨g, i * 3 + 1, none⟩ = some (.slice xa f.bs.length xc) := hrg 1 _ rfl
 have hilc : (i : Int) < (cs.length : Int) := by omega
 have p0 := HD1.out.blk.c 0 (by rfl : (stA (.slice (some ⟨g, 0, none⟩) cs.length vc) D)[0]? = some (.slice (some ⟨g, 0, none⟩) cs.length vc))
 clear hrg hec hx hf_ hci
 simp only [Act.put, pqA, pqB, pqC]
 refine VlS (.tuple #[.int .i64 (i : Int), .bool true]) ?_
 refine VlS (.int .i64 (i : Int)) ?_
 refine VbT ?_
 refine VlS (.int .i64 (i : Int)) ?_
 refine VbT ?_
 refine WL.nil (hK5 _ _ ?_)
 refine wp_seq_k fun K6 hK6 => ?_
 refine wp_seq_k fun K7 hK7 => rgn ?_
 refine VbT ?_
 refine VbF ?_
 refine WL.nil (hK7 _ _ ?_)
 refine wp_cond_false rfl ?_
 refine wp_skip ?_
 refine hK6 _ _ ?_
 refine wp_seq_k fun K8 hK8 => ?_
 refine wp_seq_k fun K9 hK9 => rgn ?_
 refine VlS (.int .i64 m) ?_
 by_cases h7_1 : m < 0
 ·skip
  refine VbT ?_
  refine VbT ?_
  refine SkS ?_
  refine SkS ?_
  refine SkS ?_
  refine SkS ?_
  refine SkS ?_
  refine SkS ?_
  refine SkS ?_
  refine SkS ?_
  refine SkS ?_
  refine SkS ?_
  refine SkS ?_
  refine VbT ?_
  refine WL.nil (hK9 _ _ ?_)
  refine wp_cond_true rfl ?_
  refine wp_seq_k fun K10 hK10 => rgn ?_
  refine VlS (.int .i64 2) ?_
  refine WL.nil (hK10 _ _ ?_)
  refine wp_ret ?_
  go_ret
  exact ⟨rfl, B1.out⟩
 ·skip
  refine VbF ?_
  refine VbF ?_
  refine VlS (.int .i64 m) ?_
  refine VlS (.pointer (some ⟨p, 0, none⟩)) ?_
  refine VlS (.pointer (some ⟨p, 0, none⟩)) ?_
  refine VlS (.pointer (some ⟨p, 0, none⟩)) ?_
  refine VlS (.slice (some ⟨g, 0, none⟩) cs.length vc) ?_
  refine VlS (.int .i64 (i : Int)) ?_
  refine VlS (.pointer (some ⟨g, i * 3, none⟩)) ?_
  refine VlS (.pointer (some ⟨g, i * 3 + 1, none⟩)) ?_
  refine VlS (.slice xa f.bs.length xc) ?_
  refine VlS (.int .i64 (f.bs.length : Int)) ?_
  by_cases h7_13 : (f.bs.length : Int) < m
  ·skip
   refine VbT ?_
   refine VbT ?_
   refine WL.nil (hK9 _ _ ?_)
   refine wp_cond_true rfl ?_
   refine wp_seq_k fun K11 hK11 => rgn ?_
   refine VlS (.int .i64 2) ?_
   refine WL.nil (hK11 _ _ ?_)
   refine wp_ret ?_
   go_ret
   exact ⟨rfl, B1.out⟩
  ·skip
   refine VbF ?_
   refine VbF ?_
   refine WL.nil (hK9 _ _ ?_)
   refine wp_cond_false rfl ?_
   refine wp_skip ?_
   refine hK8 _ _ ?_
   refine wp_seq_k fun K12 hK12 => ?_
   refine wp_seq_k fun K13 hK13 => ?_
   exfalso; have := HM.out; omega
theorem bless_eq : ∀ (x y : List UInt8), Op.bytesLess x y = decide (x < y)
 | [], [] => by simp [Op.bytesLess]
 | _ :: _, [] => by simp [Op.bytesLess]
 | [], _ :: _ => by simp [Op.bytesLess]
 | a :: x, b :: y => by
  rw [Op.bytesLess, bless_eq x y]
  simp only [List.cons_lt_cons_iff]
  by_cases h1 : a < b <;> by_cases h2 : a = b <;> by_cases h3 : x < y <;> simp [h1, h2, h3]
theorem ba_ext {a b : ByteArray} (h : a.data.toList = b.data.toList) : a = b := by
 cases a; cases b; simp at h; rw [h]
theorem ba_data (n : ByteArray) : n.data.toList = n.toList := (Go.Lib.toList_data n).symm
abbrev nlt (a b : ByteArray) : Prop := a.toList < b.toList
theorem nlt_irrefl (a : ByteArray) : ¬ nlt a a := List.lt_irrefl _
theorem nlt_trans {a b c : ByteArray} (h : nlt a b) (k : nlt b c) : nlt a c := List.lt_trans h k
theorem nlt_tri {a b : ByteArray} (h : ¬ nlt a b) (e : a ≠ b) : nlt b a := by
 unfold nlt at h ⊢
 rcases List.le_iff_lt_or_eq.1 (List.not_lt.1 h) with h1 | h1
 ·exact h1
 ·exact absurd (ba_ext (by rw [ba_data, ba_data, h1])) e
theorem toList_ext {a b : ByteArray} (h : a.toList = b.toList) : a = b := ba_ext (by rw [ba_data, ba_data, h])
def Srt (fs : List PF) : Prop := fs.Pairwise fun a b => nlt a.nm b.nm
theorem fnd_of : ∀ (fs : List PF) (a i : Nat) (f : PF), Srt fs → fs[i]? = some f → fnd f.nm fs a = (a + i, true)
 | [], a, i, f, _, h => by simp at h
 | g :: r, a, 0, f, hs, h => by
  simp at h
  subst h
  unfold fnd
  rw [bless_eq, if_neg (by simp)]
  simp
 | g :: r, a, i + 1, f, hs, h => by
  have hr : r[i]? = some f := by simpa using h
  have hlt : nlt g.nm f.nm := (List.pairwise_cons.1 hs).1 f (List.mem_of_getElem? hr)
  unfold fnd
  rw [bless_eq, if_pos (decide_eq_true hlt), fnd_of r (a + 1) i f (List.pairwise_cons.1 hs).2 hr, Nat.add_right_comm, Nat.add_assoc]
theorem fnd_not : ∀ (fs : List PF) (n : ByteArray) (a : Nat), (∀ f ∈ fs, f.nm ≠ n) → (fnd n fs a).2 = false
 | [], n, a, _ => rfl
 | g :: r, n, a, h => by
  unfold fnd
  split
  ·exact fnd_not r n (a + 1) fun f hf => h f (by simp [hf])
  ·simp only [beq_eq_false_iff_ne, ne_eq]
   exact fun e => h g (by simp) (toList_ext e)
theorem fnd_split : ∀ (fs : List PF) (n : ByteArray) (a i : Nat), Srt fs → fnd n fs a = (a + i, false) → (∀ f ∈ fs.take i, nlt f.nm n) ∧ ∀ f ∈ fs.drop i, nlt n f.nm
 | [], n, a, i, _, _ => ⟨fun f hf => by simp at hf, fun f hf => by simp at hf⟩
 | g :: r, n, a, i, hs, h => by
  unfold fnd at h
  split at h
  ·rename_i hlt
   rw [bless_eq] at hlt
   have hi := (fnd_le n r (a + 1)).1
   rw [h] at hi
   simp only at hi
   obtain ⟨j, rfl⟩ : ∃ j, i = j + 1 := ⟨i - 1, by omega⟩
   obtain ⟨h1, h2⟩ := fnd_split r n (a + 1) j (List.pairwise_cons.1 hs).2 (by rw [h]; congr 1; omega)
   refine ⟨fun f hf => ?_, fun f hf => h2 f (by simpa using hf)⟩
   rw [List.take_succ_cons] at hf
   rcases List.mem_cons.1 hf with rfl | hf
   ·exact of_decide_eq_true hlt
   ·exact h1 f hf
  ·rename_i hlt
   injection h with h0 h3
   obtain rfl : i = 0 := by omega
   have hne : g.nm ≠ n := fun e => by rw [e] at h3; simp at h3
   have hlt' : ¬ nlt g.nm n := fun h => hlt (by rw [bless_eq]; exact decide_eq_true h)
   have hg := nlt_tri hlt' hne
   refine ⟨fun f hf => by simp at hf, fun f hf => ?_⟩
   rw [List.drop_zero] at hf
   rcases List.mem_cons.1 hf with rfl | hf
   ·exact hg
   ·exact nlt_trans hg ((List.pairwise_cons.1 hs).1 f hf)
theorem srt_ins {fs : List PF} {n : ByteArray} {i : Nat} {f : PF} (hs : Srt fs) (h : fnd n fs 0 = (i, false)) (hf : f.nm = n) : Srt (fs.take i ++ [f] ++ fs.drop i) := by
 obtain ⟨h1, h2⟩ := fnd_split fs n 0 i hs (by rw [Nat.zero_add]; exact h)
 have h3 : (fs.take i ++ fs.drop i).Pairwise fun a b => nlt a.nm b.nm := by rw [List.take_append_drop]; exact hs
 obtain ⟨p1, p2, p3⟩ := List.pairwise_append.1 h3
 rw [List.append_assoc]
 refine List.pairwise_append.2 ⟨p1, List.pairwise_cons.2 ⟨fun b hb => by rw [hf]; exact h2 b hb, p2⟩, fun a ha b hb => ?_⟩
 rcases List.mem_cons.1 hb with rfl | hb
 ·rw [hf]; exact h1 a ha
 ·exact p3 a ha b hb
theorem srt_del {fs : List PF} (hs : Srt fs) (i : Nat) : Srt (fs.take i ++ fs.drop (i + 1)) := by
 have h3 : (fs.take i ++ fs.drop i).Pairwise fun a b => nlt a.nm b.nm := by rw [List.take_append_drop]; exact hs
 obtain ⟨p1, p2, p3⟩ := List.pairwise_append.1 h3
 have hsub : (fs.drop (i + 1)).Sublist (fs.drop i) := by rw [← List.drop_drop]; exact List.drop_sublist _ _
 exact List.pairwise_append.2 ⟨p1, p2.sublist hsub, fun a ha b hb => p3 a ha b (hsub.subset hb)⟩
theorem srt_set {fs : List PF} (hs : Srt fs) {i : Nat} {f g : PF} (hi : fs[i]? = some f) (e : g.nm = f.nm) : Srt (fs.set i g) := by
 unfold Srt at hs ⊢
 have hm : ∀ l : List PF, (l.Pairwise fun a b => nlt a.nm b.nm) ↔ (l.map PF.nm).Pairwise nlt := fun l => List.pairwise_map.symm
 rw [hm] at hs ⊢
 rw [List.map_set, e]
 obtain ⟨hi', rfl⟩ := List.getElem?_eq_some_iff.1 hi
 rwa [show (List.map PF.nm fs).set i (fs[i]).nm = List.map PF.nm fs by
  apply List.ext_getElem?
  intro j
  by_cases hj : i = j
  ·subst hj
   rw [List.getElem?_set_self (by simpa using hi'), List.getElem?_map, List.getElem?_eq_getElem hi']
   rfl
  ·rw [List.getElem?_set_ne hj]]
theorem del_mem {α : Type} {l : List α} {i : Nat} {x : α} (h : x ∈ l.take i ++ l.drop (i + 1)) : ∃ j, j ≠ i ∧ l[j]? = some x := by
 rcases List.mem_append.1 h with h | h
 ·obtain ⟨j, hj, rfl⟩ := List.getElem_of_mem h
  rw [List.length_take] at hj
  refine ⟨j, by omega, ?_⟩
  rw [List.getElem_take, List.getElem?_eq_getElem]
 ·obtain ⟨j, hj, rfl⟩ := List.getElem_of_mem h
  rw [List.length_drop] at hj
  refine ⟨i + 1 + j, by omega, ?_⟩
  rw [List.getElem_drop, List.getElem?_eq_getElem]
end Go.Proofs.YteijjfeainamdaaGreatDoor
