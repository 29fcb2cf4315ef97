import Derived.Test.YteijjfeainamdaaGreatDoorA02
import Derived.Deep.RegionHeld3
namespace Go.Proofs.YteijjfeainamdaaGreatDoor
open Go.RowKit
set_option linter.unusedSimpArgs false
set_option linter.unusedVariables false

theorem Tryz.in15 (w : World) (vs : Array Value) : (callFunc 15 vs).run Tryz.prog w = .ok (.enter 15 vs) w := by kernel_rfl
def pw (D : DV) : Int := if D.fuse = 0 then 7 else 0
theorem bcl {B : Nat} {a b : World} (h : Below B a b) {k j : Nat} {v : Value} (hk : k < B ∧ a.cell? ⟨k, j, none⟩ = some v) : b.cell? ⟨k, j, none⟩ = some v := by
 have : b.cell? ⟨k, j, none⟩ = a.cell? ⟨k, j, none⟩ := by simp only [World.cell?, h.block k hk.1]
 rw [this]; exact hk.2
theorem wp_cellS {P : Program} {Q : Exit → Act → World → Prop} {o : Oper} {a : Act} {w : World} {K : Act → World → Prop} (w' : World) (hrun : (execOp a.eval o).run P w = .ok .skip w') (h : K (a.put o.dst undef) w') : o.wp P a w K Q := by unfold Oper.wp; rw [hrun, Oper.upon_skip]; exact h
def DV.appNew (D : DV) (i : Nat) (n : ByteArray) (l : List Int) : DV := DV.act { D with fs := D.fs.take i ++ [⟨n, l, 0⟩] ++ D.fs.drop i, used := D.used + (l.length : Int) }
def NewF (B : Nat) (v : Value) : Prop := ∀ k, v.ownBlock = some k → B ≤ k
theorem own_new {w w' : World} {v v' : Value} {l : List Int} {B : Nat} (h : AppPost w v l v' w') (hB : B ≤ w.heap.size) (hv : ∀ k, v.ownBlock = some k → B ≤ k) : ∀ k, v'.ownBlock = some k → B ≤ k := fun k hk => by
 rcases h.moved with e | ⟨j, e, hj⟩
 ·exact hv k (by rw [← e]; exact hk)
 ·rw [e] at hk; injection hk; omega
theorem NewF.at {B g n c : Nat} (h : B ≤ g) : NewF B (.slice (some ⟨g, 0, none⟩) n c) := fun k hk => by have e : g = k := Option.some.inj hk; omega
theorem NewF.moved {B : Nat} {v v' : Value} {w : World} (h : NewF B v) (hB : B ≤ w.heap.size) (hm : Moved w v v') : NewF B v' := fun k hk => by
 rcases hm with e | ⟨j, e, hj⟩
 ·exact h k (by rw [← e]; exact hk)
 ·rw [hk] at e; have := Option.some.inj e; omega
theorem newF_below {v : Value} {w0 w w' : World} (h : NewF w0.heap.size v) (hb : Below w0.heap.size w0 w) (hg : Grown w w' fun k => v.ownBlock = some k) : Below w0.heap.size w0 w' := hb.trans (hg.to_below (fun k hk e => by have := h k e; omega) hb.size)
theorem srcF_one {w : World} {g : Nat} {x : FC} (h : Blk w g 49 (fA x)) : SrcF w (.slice (some ⟨g, 0, none⟩) 1 1) [x] := .inr ⟨g, 0, 1, rfl, fun j u hj => by rw [Nat.zero_add, h.cell]; simpa [fL] using hj⟩
theorem ownF_frozen {w : World} {g n c : Nat} {l : List FC} (h : OwnF w (.slice (some ⟨g, 0, none⟩) n c) l) (j : Nat) : w.frozen? ⟨g, j, none⟩ = false := by
 rcases h.form with ⟨e, _⟩ | ⟨g', cap, cur, e, hb, _⟩
 ·cases e
 ·injection e with e1 e2 e3
  injection e1 with e1
  injection e1 with e1
  subst e1
  exact hb.frozen _
theorem dsk_ins {w : World} {p : Nat} {vf v7 : Value} {cs csi : List FC} {D : DV} {i : Nat} {n : ByteArray} (h : DskAt w p vf cs D) (ho : OwnF w v7 csi) (hp : v7.ownBlock ≠ some p) (hc : csi = cs.take i ++ [(⟨n, .slice none 0 0, 0⟩ : FC)] ++ cs.drop i) (hi : i ≤ cs.length) : DskAt (w.setCell ⟨p, 0, none⟩ v7) p v7 csi { D with fs := D.fs.take i ++ [⟨n, [], 0⟩] ++ D.fs.drop i } := by
 have hg : Grown w (w.setCell ⟨p, 0, none⟩ v7) fun k => k = p := Grown.setCell w p 0 _ fun _ => rfl
 refine ⟨?_, ho.grown hg fun k hk e => hp (by rw [← e]; exact hk), ?_⟩
 ·exact h.blk.set 0 v7
 ·rw [hc]
  exact (h.fcs.ins i hi n).grown hg fun k hk e => by subst e; have := hk.one h.blk.typ; revert this; decide
theorem dsk_put {w w9 : World} {p g7 n7 k7 i : Nat} {cs csi : List FC} {D : DV} {n : ByteArray} {l : List Int} {a9 : Option Addr} {n9 k9 : Nat} (h : DskAt w p (.slice (some ⟨g7, 0, none⟩) n7 k7) csi { D with fs := D.fs.take i ++ [⟨n, [], 0⟩] ++ D.fs.drop i }) (ha : AppPost w.drew (.slice none 0 0) ([] ++ l) (.slice a9 n9 k9) w9) (hb : Below w.heap.size w w9) (hc : csi = cs.take i ++ [(⟨n, .slice none 0 0, 0⟩ : FC)] ++ cs.drop i) (hi : i ≤ cs.length) :
  DskAt (w9.setCell ⟨g7, i * 3 + 1, none⟩ (.slice a9 n9 k9)) p (.slice (some ⟨g7, 0, none⟩) n7 k7) (csi.set i ⟨n, .slice a9 n9 k9, 0⟩) { D with fs := D.fs.take i ++ [⟨n, l, 0⟩] ++ D.fs.drop i } := by
 have hg : Grown w9 (w9.setCell ⟨g7, i * 3 + 1, none⟩ (.slice a9 n9 k9)) fun k => k = g7 := Grown.setCell w9 g7 _ _ fun _ => rfl
 have h9 := h.below hb
 have hx : csi[i]? = some (⟨n, .slice none 0 0, 0⟩ : FC) := by rw [hc, ins_get _ _ _ _ hi, if_neg (Nat.lt_irrefl i), if_pos rfl]
 have ht : Typ w9 g7 49 := h9.own.typ rfl
 have hl : i < csi.length := (List.getElem?_eq_some_iff.1 hx).1
 have hfs : i ≤ D.fs.length := by have := h.fcs.len; rw [hc] at this; simp at this; omega
 refine ⟨hg.blk h9.blk fun e => ?_, h9.own.set hx (by omega) rfl, ?_⟩
 ·subst e; have := ht.one h9.blk.typ; revert this; decide
 ·have hf := h9.fcs.set (w' := w9.setCell ⟨g7, i * 3 + 1, none⟩ (.slice a9 n9 k9)) (x := ⟨n, .slice a9 n9 k9, 0⟩) (f := ⟨n, l, 0⟩) hl ⟨rfl, rfl, ?_⟩ (fun j y g hj hy hgj => (h9.fcs.each j y g hy hgj).grown hg fun k hk e => ?_) (fun j y k hj hy hk hyk => ?_)
  ·rw [ins_set _ _ _ _ hfs] at hf; exact hf
  ·have ho := ha.1
   rw [List.nil_append] at ho
   exact ho.grown hg fun k hk e => by subst e; have := (ho.typ hk).one ht; revert this; decide
  ·subst e; have := hk.one ht; revert this; decide
  ·have h1 := own_new (B := w.heap.size) ha (Nat.le_refl _) (fun j hj => by cases hj) k hk
   have hjl := (List.getElem?_eq_some_iff.1 hy).1
   rw [h.fcs.len] at hjl
   have h2 := (h.fcs.each j y _ hy (List.getElem?_eq_getElem hjl)).2.2.lt k hyk
   omega
theorem dsk_new {B p g7 n7 k7 i : Nat} {vf : Value} {cs csi : List FC} {n : ByteArray} {x : FC} (h7 : NewF B (.slice (some ⟨g7, 0, none⟩) n7 k7)) (hc : csi = cs.take i ++ [(⟨n, .slice none 0 0, 0⟩ : FC)] ++ cs.drop i) (hi : i ≤ cs.length) (hx : ∀ k, x.b.ownBlock = some k → B ≤ k) : ∀ k, DskS p (.slice (some ⟨g7, 0, none⟩) n7 k7) (csi.set i x) k → DskS p vf cs k ∨ B ≤ k := by
 rintro k (e | e | ⟨j, y, hy, e⟩)
 ·exact .inl (.inl e)
 ·exact .inr (h7 k e)
 ·rw [hc, ins_set _ _ _ _ hi, ins_get _ _ _ _ hi] at hy
  split at hy
  ·exact .inl (.inr (.inr ⟨j, y, hy, e⟩))
  ·split at hy
   ·injection hy with hy; subst hy; exact .inr (hx k e)
   ·exact .inl (.inr (.inr ⟨_, y, hy, e⟩))
set_option maxRecDepth 8000 in
set_option maxHeartbeats 2000000 in
theorem app_new (d p i : Nat) (n : ByteArray) (v vf : Value) (l : List Int) (cs : List FC) (D : DV) (w : World) (hDk : Blk w d 67 #[ptr p]) (hD : DskAt w p vf cs D) (hO : D.out = false) (hRg : rgt n = true) (hF : fnd n D.fs 0 = (i, false)) (hL : cs.length < 256)
  (hU : 0 ≤ D.used ∧ 0 ≤ D.room ∧ D.room ≤ 9223372036854775807 ∧ D.used + (l.length : Int) ≤ 70368744177664 ∧ (l.length : Int) ≤ D.room - D.used) (hA : 0 ≤ D.acts ∧ D.acts ≤ 4611686018427387904) (hFu : -9223372036854775808 < D.fuse ∧ D.fuse ≤ 9223372036854775807) (hR : RowAt w v l) (hRp : ∀ k, v.ownBlock = some k → k ≠ p) :
  Calls Tryz.prog 15 #[ptr d, .string n, v] w fun e w' => e = .returned (.int .i64 (pw D)) ∧ ∃ vf' cs', DskAt w' p vf' cs' (D.appNew i n l) ∧ (Grown w w' fun k => k = p) ∧ ∀ k, DskS p vf' cs' k → DskS p vf cs k ∨ w.heap.size ≤ k := by
 obtain ⟨va, vc, rfl⟩ := hD.own.sl
 obtain ⟨ba, bc, rfl⟩ := row_form hR
 have HDk := Keep.mk hDk
 have HD := Keep.mk hD
 have HDp : Keep (p < w.heap.size) := ⟨hD.blk.lt⟩
 have HO := Keep.mk hO
 have HRg := Keep.mk hRg
 have HF := Keep.mk hF
 have HL := Keep.mk hL
 have HU := Keep.mk hU
 have HA := Keep.mk hA
 have HFu := Keep.mk hFu
 have HR := Keep.mk hR
 have HRp := Keep.mk hRp
 clear hDk hD hO hRg hF hL hU hA hFu hR hRp
 go_enter Tryz.func15, Tryz.ntmps15
 have cd := HDk.out.c 0 (by rfl : (#[ptr p] : Array Value)[0]? = some (ptr p))
 have c4 : w.cell? ⟨p, 4, none⟩ = some (.bool false) := by have h := HD.out.blk.c 4 (by rfl : (stA (.slice va cs.length vc) D)[4]? = some (.bool D.out)); rw [HO.out] at h; exact h
 refine wp_seq_k fun K1 hK1 => rgn ?_
 refine VlS (.int .i64 0) ?_
 refine WL.nil (hK1 _ _ ?_)
 refine wp_seq_k fun K2 hK2 => rgn ?_
 refine VlS (.pointer (some ⟨d, 0, none⟩)) ?_
 refine VlS (.pointer (some ⟨d, 0, none⟩)) ?_
 refine VlS (.pointer (some ⟨d, 0, none⟩)) ?_
 refine VlS (.pointer (some ⟨p, 0, none⟩)) ?_
 refine VlS (.pointer (some ⟨p, 0, none⟩)) ?_
 refine WL.nil (hK2 _ _ ?_)
 refine wp_seq_k fun K3 hK3 => ?_
 refine wp_seq_k fun K4 hK4 => rgn ?_
 refine VlS (.pointer (some ⟨p, 0, none⟩)) ?_
 refine VlS (.pointer (some ⟨p, 0, none⟩)) ?_
 refine VlS (.pointer (some ⟨p, 4, none⟩)) ?_
 refine VbF ?_
 refine WL.nil (hK4 _ _ ?_)
 refine wp_cond_false rfl ?_
 refine wp_skip ?_
 refine hK3 _ _ ?_
 refine wp_seq_k fun K5 hK5 => ?_
 refine wp_seq_k fun K6 hK6 => rgn ?_
 refine VlS (.string n) ?_
 clear cd c4
 have hrt := right_any n w
 rw [HRg.out] at hrt
 refine WL.callF (by kernel_rfl) 26 _ _ rfl Tryz.in26 #[.string n] (by simp [Act.eval]) ?_
 refine (hrt).mono ?_
 rintro e wz ⟨rfl, hz⟩
 refine ⟨_, rfl, ?_⟩
 subst hz
 clear hrt
 simp only [Act.put, pqA, pqB, pqC]
 refine VbF ?_
 refine WL.nil (hK6 _ _ ?_)
 refine wp_cond_false rfl ?_
 refine wp_skip ?_
 refine hK5 _ _ ?_
 refine wp_seq_k fun K7 hK7 => rgn ?_
 refine VlS (.pointer (some ⟨p, 0, none⟩)) ?_
 refine VlS (.string n) ?_
 have hfd := find_any p n _ cs D wz HD.out (by have := HL.out; omega)
 rw [HF.out] at hfd
 refine WL.callF (by kernel_rfl) 25 _ _ rfl Tryz.in25 #[ptr p, .string n] (by simp [Act.eval]) ?_
 refine (hfd).mono ?_
 rintro e w1 ⟨rfl, hb1⟩
 refine ⟨_, rfl, ?_⟩
 have HD1 := Keep.mk (HD.out.below hb1)
 have B1 := Keep.mk hb1
 have c0 := HD1.out.blk.c 0 (by rfl : (stA (.slice va cs.length vc) D)[0]? = some (.slice va cs.length vc))
 clear hb1 hfd
 have hlt : (cs.length : Int) < 256 := by have := HL.out; omega
 simp only [Act.put, pqA, pqB, pqC]
 refine VlS (.tuple #[.int .i64 (i : Int), .bool false]) ?_
 refine VlS (.int .i64 (i : Int)) ?_
 refine VbF ?_
 refine VlS (.int .i64 (i : Int)) ?_
 refine VbF ?_
 refine WL.nil (hK7 _ _ ?_)
 refine wp_seq_k fun K8 hK8 => ?_
 refine wp_seq_k fun K9 hK9 => rgn ?_
 refine VbF ?_
 refine VbT ?_
 refine VbT ?_
 refine VlS (.pointer (some ⟨p, 0, none⟩)) ?_
 refine VlS (.pointer (some ⟨p, 0, none⟩)) ?_
 refine VlS (.pointer (some ⟨p, 0, none⟩)) ?_
 refine VlS (.slice va cs.length vc) ?_
 refine VlS (.int .i64 (cs.length : Int)) ?_
 refine VbF ?_
 refine VbF ?_
 refine WL.nil (hK9 _ _ ?_)
 refine wp_cond_false rfl ?_
 refine wp_skip ?_
 refine hK8 _ _ ?_
 refine wp_seq_k fun K10 hK10 => ?_
 refine wp_seq_k fun K11 hK11 => ?_
 have hS0 : Keep (w1.drew.cell? ⟨p, 1, none⟩ = some (.int .i64 D.room) ∧ w1.drew.cell? ⟨p, 2, none⟩ = some (.int .i64 D.used)) := ⟨HD1.out.blk.drew.c 1 rfl, HD1.out.blk.drew.c 2 rfl⟩
 have hwr : IntKind.i64.wrap (D.room - D.used) = D.room - D.used := by rw [IntKind.wrap_i64]; have := HU.out; omega
 have hle : ¬ D.room - D.used < (l.length : Int) := by have := HU.out; omega
 refine wp_region_held_drew (S := fun wx => wx.cell? ⟨p, 1, none⟩ = some (.int .i64 D.room) ∧ wx.cell? ⟨p, 2, none⟩ = some (.int .i64 D.used)) (by kernel_rfl) (hS0.out) (fun hHeld => ?_)
 refine TkJ (i := 0) (oi := ⟨some 38, Op.move (Operand.tmp 2), 40, _, _, none⟩) (v := .slice ba l.length bc) rfl hHeld ?_
 refine TkJ (i := 1) (oi := ⟨some 39, Op.call { callee := Callee.builtin Builtin.len, args := #[Operand.tmp 38], argTypes := #[40] }, 3, _, _, none⟩) (v := .int .i64 (l.length : Int)) rfl hHeld ?_
 refine TkJ (i := 2) (oi := ⟨some 40, Op.move (Operand.tmp 7), 65, _, _, none⟩) (v := .pointer (some ⟨p, 0, none⟩)) rfl hHeld ?_
 refine TkJ (i := 3) (oi := ⟨some 41, Op.nilCheck (Operand.tmp 40), 0, _, _, none⟩) (v := .pointer (some ⟨p, 0, none⟩)) rfl hHeld ?_
 refine TkJ (i := 4) (oi := ⟨some 42, Op.fieldAddr 71 (Operand.tmp 41) 1, 0, _, _, none⟩) (v := .pointer (some ⟨p, 1, none⟩)) rfl hHeld ?_
 refine TkJ (i := 5) (oi := ⟨some 43, Op.load 3 (Operand.tmp 42), 3, _, _, none⟩) (v := .int .i64 D.room) rfl hHeld ?_
 refine TkJ (i := 6) (oi := ⟨some 44, Op.move (Operand.tmp 7), 65, _, _, none⟩) (v := .pointer (some ⟨p, 0, none⟩)) rfl hHeld ?_
 refine TkJ (i := 7) (oi := ⟨some 45, Op.nilCheck (Operand.tmp 44), 0, _, _, none⟩) (v := .pointer (some ⟨p, 0, none⟩)) rfl hHeld ?_
 refine TkJ (i := 8) (oi := ⟨some 46, Op.fieldAddr 71 (Operand.tmp 45) 2, 0, _, _, none⟩) (v := .pointer (some ⟨p, 2, none⟩)) rfl hHeld ?_
 refine TkJ (i := 9) (oi := ⟨some 47, Op.load 3 (Operand.tmp 46), 3, _, _, none⟩) (v := .int .i64 D.used) rfl hHeld ?_
 refine TkJ (i := 10) (oi := ⟨some 48, Op.binOp BinOp.sub 3 (Operand.tmp 43) (Operand.tmp 47) 3, 3, _, _, none⟩) (v := .int .i64 (D.room - D.used)) rfl hHeld ?_
 refine TkJ (i := 11) (oi := ⟨some 49, Op.binOp BinOp.gtr 3 (Operand.tmp 39) (Operand.tmp 48) 3, 4, _, _, none⟩) (v := .bool false) rfl hHeld ?_
 refine wpAnyH_done (by kernel_rfl) ?_ _
 refine hK11 _ _ ?_
 refine wp_cond_false rfl ?_
 refine wp_skip ?_
 refine hK10 _ _ ?_
 refine wp_seq_k fun K12 hK12 => ?_
 refine wp_seq_k fun K13 hK13 => ?_
 have HD2 := Keep.mk (HD1.out.grown (Grown.refl w1 (fun _ => False)).drew fun _ _ h => h)
 have B2 : Keep (Below wz.heap.size wz w1.drew) := ⟨B1.out.drew⟩
 clear c0 hS0 hwr hle hlt HD1 B1
 generalize w1.drew = w2 at *
 refine rgn ?_
 refine VbF ?_
 refine VbT ?_
 refine WL.nil (hK13 _ _ ?_)
 refine wp_cond_true rfl ?_
 refine wp_seq_k fun K14 hK14 => rgn ?_
 refine WL.bs (by kernel_rfl) 22 0 _ rfl #[] (by simp) _ _ (bsFE w2) ?_
 have HN3 := Keep.mk (ownF_empty w2)
 have hbx := below_new w2 (.cells #[] 49)
 have HD3 := Keep.mk (HD2.out.below hbx)
 have B3 : Keep (Below wz.heap.size wz (w2.alloc (.cells #[] 49))) := ⟨B2.out.trans (hbx.mono B2.out.size)⟩
 clear hbx HD2
 generalize w2.alloc (.cells #[] 49) = w3 at *
 obtain ⟨g3, hg3⟩ : ∃ g, Keep (g = w2.heap.size) := ⟨_, ⟨rfl⟩⟩
 rw [← hg3.out] at HN3 ⊢
 have hB3 : Keep (wz.heap.size ≤ g3) := ⟨by rw [hg3.out]; exact B2.out.size⟩
 have c0 := HD3.out.blk.c 0 (by rfl : (stA (.slice va cs.length vc) D)[0]? = some (.slice va cs.length vc))
 have hil : Keep (i ≤ cs.length) := ⟨by have h := fnd_le n D.fs 0; rw [HF.out] at h; have := HD3.out.fcs.len; simp at h; omega⟩
 obtain ⟨vs1, hs1, hs2⟩ := slF_hi HD3.out.own i hil.out
 have HS1 := Keep.mk (hs1 w3)
 have HS2 := Keep.mk (hs2 w3 HD3.out.own)
 clear hs1 hs2
 simp only [Act.put, pqA, pqB, pqC]
 refine VlS (.pointer (some ⟨p, 0, none⟩)) ?_
 refine VlS (.pointer (some ⟨p, 0, none⟩)) ?_
 refine VlS (.pointer (some ⟨p, 0, none⟩)) ?_
 refine VlS (.slice va cs.length vc) ?_
 refine VlS (.int .i64 (i : Int)) ?_
 refine WL.slHi (by kernel_rfl) (.tmp 56) (.tmp 57) rfl (.slice va cs.length vc) (.int .i64 (i : Int)) vs1 rfl rfl HS1.out ?_
 simp only [Act.put, pqA, pqB, pqC]
 refine WL.appS (by kernel_rfl) (.tmp 52) (.tmp 58) rfl (.slice (some ⟨g3, 0, none⟩) 0 0) vs1 [] (cs.take i) (fun x hx => HD3.out.fcs.sl x (List.mem_of_mem_take hx)) rfl rfl HN3.out HS2.out (by simp; have := HL.out; omega) fun v4 w4 ho hg hm => ?_
 have HO4 := Keep.mk ho
 have N4 : Keep (NewF wz.heap.size v4) := ⟨NewF.moved (NewF.at hB3.out) B3.out.size hm⟩
 have B4 : Keep (Below wz.heap.size wz w4) := ⟨newF_below (NewF.at hB3.out) B3.out hg⟩
 have HD4 : Keep (DskAt w4 p (.slice va cs.length vc) cs D) := ⟨HD.out.below B4.out⟩
 clear ho hg hm HD3 HS1 HS2 c0
 obtain ⟨a4, k4, e4⟩ := HO4.out.sl
 subst e4
 obtain ⟨n4, hn4⟩ : ∃ q, Keep (q = (([] : List FC) ++ cs.take i).length) := ⟨_, ⟨rfl⟩⟩
 rw [← hn4.out] at HO4 N4 ⊢
 simp only [Act.put, pqA, pqB, pqC]
 refine VlS (.slice a4 n4 k4) ?_
 refine WL.nil (hK14 _ _ ?_)
 refine wp_seq_k fun K15 hK15 => rgn ?_
 refine VlS (.slice a4 n4 k4) ?_
 refine VlS (.string n) ?_
 refine WL.bld (by kernel_rfl) 49 _ rfl [(0, .string n)] (by simp [Act.eval]) _ (f_built n) ?_
 simp only [Act.put, pqA, pqB, pqC]
 refine WL.bs (by kernel_rfl) 22 1 _ rfl #[(0, .agg (fA (⟨n, .slice none 0 0, 0⟩ : FC)))] (by simp [Act.eval]) _ _ (bsF n none 0 0 0 w4) ?_
 have HB5 := Keep.mk (Blk.new w4 49 (fA (⟨n, .slice none 0 0, 0⟩ : FC)))
 have hbx := below_new w4 (.cells (fA (⟨n, .slice none 0 0, 0⟩ : FC)) 49)
 have HO5 := Keep.mk (HO4.out.below hbx)
 have B5 : Keep (Below wz.heap.size wz (w4.alloc (.cells (fA (⟨n, .slice none 0 0, 0⟩ : FC)) 49))) := ⟨B4.out.trans (hbx.mono B4.out.size)⟩
 clear hbx HO4
 generalize w4.alloc (.cells (fA (⟨n, .slice none 0 0, 0⟩ : FC)) 49) = w5 at *
 obtain ⟨g5, hg5⟩ : ∃ g, Keep (g = w4.heap.size) := ⟨_, ⟨rfl⟩⟩
 rw [← hg5.out] at HB5 ⊢
 simp only [Act.put, pqA, pqB, pqC]
 refine WL.appS (by kernel_rfl) (.tmp 60) (.tmp 63) rfl (.slice a4 n4 k4) (.slice (some ⟨g5, 0, none⟩) 1 1) ([] ++ cs.take i) [(⟨n, .slice none 0 0, 0⟩ : FC)] (fun x hx => by simp at hx; subst hx; exact ⟨none, 0, 0, rfl⟩) rfl rfl HO5.out (srcF_one HB5.out) (by simp; have := HL.out; omega) fun v6 w6 ho hg hm => ?_
 have HO6 := Keep.mk ho
 have N6 : Keep (NewF wz.heap.size v6) := ⟨NewF.moved N4.out B5.out.size hm⟩
 have B6 : Keep (Below wz.heap.size wz w6) := ⟨newF_below N4.out B5.out hg⟩
 have HD6 : Keep (DskAt w6 p (.slice va cs.length vc) cs D) := ⟨HD.out.below B6.out⟩
 clear ho hg hm HD4 HB5
 obtain ⟨a6, k6, e6⟩ := HO6.out.sl
 subst e6
 obtain ⟨n6, hn6⟩ : ∃ q, Keep (q = ([] ++ cs.take i ++ [(⟨n, .slice none 0 0, 0⟩ : FC)]).length) := ⟨_, ⟨rfl⟩⟩
 rw [← hn6.out] at HO6 N6 ⊢
 have c0 := HD6.out.blk.c 0 (by rfl : (stA (.slice va cs.length vc) D)[0]? = some (.slice va cs.length vc))
 obtain ⟨vs2, hs1, hs2⟩ := slF_lo HD6.out.own i hil.out
 have HS1 := Keep.mk (hs1 w6)
 have HS2 := Keep.mk (hs2 w6 HD6.out.own)
 clear hs1 hs2
 simp only [Act.put, pqA, pqB, pqC]
 refine VlS (.slice a6 n6 k6) ?_
 refine WL.nil (hK15 _ _ ?_)
 refine rgn ?_
 refine VlS (.pointer (some ⟨p, 0, none⟩)) ?_
 refine VlS (.slice a6 n6 k6) ?_
 refine VlS (.pointer (some ⟨p, 0, none⟩)) ?_
 refine VlS (.pointer (some ⟨p, 0, none⟩)) ?_
 refine VlS (.pointer (some ⟨p, 0, none⟩)) ?_
 refine VlS (.slice va cs.length vc) ?_
 refine VlS (.int .i64 (i : Int)) ?_
 refine WL.slLo (by kernel_rfl) (.tmp 70) (.tmp 71) rfl (.slice va cs.length vc) (.int .i64 (i : Int)) vs2 rfl rfl HS1.out ?_
 simp only [Act.put, pqA, pqB, pqC]
 refine WL.appS (by kernel_rfl) (.tmp 66) (.tmp 72) rfl (.slice a6 n6 k6) vs2 ([] ++ cs.take i ++ [(⟨n, .slice none 0 0, 0⟩ : FC)]) (cs.drop i) (fun x hx => HD6.out.fcs.sl x (List.mem_of_mem_drop hx)) rfl rfl HO6.out HS2.out (by simp; have := HL.out; omega) fun v7 w7 ho hg hm => ?_
 have HO7 : Keep (OwnF w7 v7 (cs.take i ++ [(⟨n, .slice none 0 0, 0⟩ : FC)] ++ cs.drop i)) := ⟨by rw [List.nil_append] at ho; exact ho⟩
 have N7 : Keep (NewF wz.heap.size v7) := ⟨NewF.moved N6.out B6.out.size hm⟩
 have B7 : Keep (Below wz.heap.size wz w7) := ⟨newF_below N6.out B6.out hg⟩
 have HD7 : Keep (DskAt w7 p (.slice va cs.length vc) cs D) := ⟨HD.out.below B7.out⟩
 clear ho hg hm HD6 HS1 HS2 c0
 obtain ⟨csi, hcsi⟩ : ∃ q, Keep (q = (cs.take i ++ [(⟨n, .slice none 0 0, 0⟩ : FC)] ++ cs.drop i)) := ⟨_, ⟨rfl⟩⟩
 rw [← hcsi.out] at HO7
 obtain ⟨a7, k7, e7⟩ := HO7.out.sl
 subst e7
 obtain ⟨g7, e7, hr7⟩ := HO7.out.at (t := i) (c := (⟨n, .slice none 0 0, 0⟩ : FC)) (by rw [hcsi.out, ins_get _ _ _ _ hil.out, if_neg (Nat.lt_irrefl i), if_pos rfl])
 subst e7
 clear hr7
 have f_o := HD7.out.blk.frozen 0
 have c0 := HD7.out.blk.c 0 (by rfl : (stA (.slice va cs.length vc) D)[0]? = some (.slice va cs.length vc))
 simp only [Act.put, pqA, pqB, pqC]
 refine VlS (.pointer (some ⟨p, 0, none⟩)) ?_
 refine VlS (.pointer (some ⟨p, 0, none⟩)) ?_
 refine WL.cell (by kernel_rfl) (w7.setCell ⟨p, 0, none⟩ (.slice (some ⟨g7, 0, none⟩) csi.length k7)) (by go_simp) ?_
 clear f_o c0
 have HD8 : Keep (DskAt (w7.setCell ⟨p, 0, none⟩ (.slice (some ⟨g7, 0, none⟩) csi.length k7)) p (.slice (some ⟨g7, 0, none⟩) csi.length k7) csi { D with fs := D.fs.take i ++ [⟨n, [], 0⟩] ++ D.fs.drop i }) := ⟨dsk_ins HD7.out HO7.out (by have := HDp.out; intro e; have e : g7 = p := Option.some.inj e; have := N7.out g7 rfl; omega) hcsi.out hil.out⟩
 have G8 : Keep (Grown wz (w7.setCell ⟨p, 0, none⟩ (.slice (some ⟨g7, 0, none⟩) csi.length k7)) fun k => k = p) := ⟨(Grown.below B7.out).trans (Grown.setCell w7 p 0 _ fun _ => rfl)⟩
 clear HD7 HO7
 generalize w7.setCell ⟨p, 0, none⟩ (.slice (some ⟨g7, 0, none⟩) csi.length k7) = w8 at *
 have HR8 := Keep.mk (HR.out.grown G8.out fun b hb _ => HRp.out b hb)
 obtain ⟨g_, hg_, hr8⟩ := HD8.out.own.at (t := i) (c := (⟨n, .slice none 0 0, 0⟩ : FC)) (by rw [hcsi.out, ins_get _ _ _ _ hil.out, if_neg (Nat.lt_irrefl i), if_pos rfl])
 obtain rfl : g7 = g_ := by injection hg_ with h; injection h
 have HR1 : Keep (w8.cell? ⟨g7, i * 3 + 1, none⟩ = some (.slice none 0 0)) := ⟨hr8 1 _ rfl⟩
 clear hr8 hg_
 have hgp : Keep (g7 ≠ p ∧ wz.heap.size ≤ g7) := ⟨by have := HDp.out; have := N7.out g7 rfl; omega, N7.out g7 rfl⟩
 have hcl : Keep (csi.length = cs.length + 1) := ⟨by rw [hcsi.out]; simp; have := hil.out; omega⟩
 have hilc : (i : Int) < (csi.length : Int) := by have := hcl.out; have := hil.out; omega
 simp only [Act.put]
 refine WL.nil (hK12 _ _ ?_)
 refine wp_seq_k fun K16 hK16 => ?_
 have hS0 : Keep (w8.drew.cell? ⟨p, 0, none⟩ = some (.slice (some ⟨g7, 0, none⟩) csi.length k7)) := ⟨HD8.out.blk.drew.c 0 rfl⟩
 refine wp_region_held_drew (S := fun wx => wx.cell? ⟨p, 0, none⟩ = some (.slice (some ⟨g7, 0, none⟩) csi.length k7)) (by kernel_rfl) (hS0.out) (fun hHeld => ?_)
 refine TkG (i := 0) (oi := ⟨some 76, Op.move (Operand.tmp 7), 65, _, _, none⟩) (v := .pointer (some ⟨p, 0, none⟩)) rfl hHeld ?_
 refine TkG (i := 1) (oi := ⟨some 77, Op.nilCheck (Operand.tmp 76), 0, _, _, none⟩) (v := .pointer (some ⟨p, 0, none⟩)) rfl hHeld ?_
 refine TkG (i := 2) (oi := ⟨some 78, Op.fieldAddr 71 (Operand.tmp 77) 0, 0, _, _, none⟩) (v := .pointer (some ⟨p, 0, none⟩)) rfl hHeld ?_
 refine TkG (i := 3) (oi := ⟨some 79, Op.load 22 (Operand.tmp 78), 22, _, _, none⟩) (v := .slice (some ⟨g7, 0, none⟩) csi.length k7) rfl hHeld ?_
 refine TkG (i := 4) (oi := ⟨some 80, Op.move (Operand.tmp 8), 3, _, _, none⟩) (v := .int .i64 (i : Int)) rfl hHeld ?_
 refine TkG (i := 5) (oi := ⟨some 81, Op.move (Operand.tmp 7), 65, _, _, none⟩) (v := .pointer (some ⟨p, 0, none⟩)) rfl hHeld ?_
 refine TkG (i := 6) (oi := ⟨some 82, Op.nilCheck (Operand.tmp 81), 0, _, _, none⟩) (v := .pointer (some ⟨p, 0, none⟩)) rfl hHeld ?_
 refine TkG (i := 7) (oi := ⟨some 83, Op.fieldAddr 71 (Operand.tmp 82) 0, 0, _, _, none⟩) (v := .pointer (some ⟨p, 0, none⟩)) rfl hHeld ?_
 refine TkG (i := 8) (oi := ⟨some 84, Op.load 22 (Operand.tmp 83), 22, _, _, none⟩) (v := .slice (some ⟨g7, 0, none⟩) csi.length k7) rfl hHeld ?_
 refine TkG (i := 9) (oi := ⟨some 85, Op.move (Operand.tmp 8), 3, _, _, none⟩) (v := .int .i64 (i : Int)) rfl hHeld ?_
 refine TkG (i := 10) (oi := ⟨some 86, Op.indexAddr 22 (Operand.tmp 84) (Operand.tmp 85), 0, _, _, none⟩) (v := .pointer (some ⟨g7, i * 3, none⟩)) rfl hHeld ?_
 refine TkG (i := 11) (oi := ⟨some 87, Op.fieldAddr 49 (Operand.tmp 86) 1, 0, _, _, none⟩) (v := .pointer (some ⟨g7, i * 3 + 1, none⟩)) rfl hHeld ?_
 refine TkG (i := 13) (oi := ⟨some 89, Op.move (Operand.tmp 2), 40, _, _, none⟩) (v := .slice ba l.length bc) rfl hHeld ?_
 refine wpAnyH_ready (rs := [12]) (by kernel_rfl) (by simp) ?_
 refine AllReadyH.cons (o := ⟨some 88, Op.load 40 (Operand.tmp 87), 40, _, _, none⟩) rfl (fun K hK => ?_) AllReadyH.nil
 rw [if_pos (by rfl)]
 have cl : w8.drew.cell? ⟨g7, i * 3 + 1, none⟩ = some (.slice none 0 0) := HR1.out
 refine wp_val (.slice none 0 0) (by go_simp) ?_
 clear cl
 refine hK _ _ hS0.out fun hH1 => ?_
 clear hK
 simp only [Act.put, pqA, pqB, pqC]
 refine wpAnyH_ready (rs := [14]) (by kernel_rfl) (by simp) ?_
 refine AllReadyH.cons (o := ⟨some 90, Op.call { callee := Callee.builtin Builtin.append, args := #[Operand.tmp 88, Operand.tmp 89], argTypes := #[40, 40] }, 40, _, _, none⟩) rfl (fun K hK => ?_) AllReadyH.nil
 rw [if_pos (by rfl)]
 refine wp_app (.tmp 88) (.tmp 89) rfl (.slice none 0 0) (.slice ba l.length bc) [] l rfl rfl (own_nil _) (HR8.out.below (Below.refl _ _).drew) (by have := HU.out; simp; omega) fun v9 w9 hp => ?_
 have HA9 := Keep.mk hp
 have G9 : Keep (Below w8.heap.size w8 w9) := ⟨(Below.refl w8.heap.size w8).drew.trans (hp.grown.to_below (B := w8.heap.size) (fun k _ e => by cases e) (Nat.le_refl _))⟩
 clear hp
 obtain ⟨a9, n9, k9, e9⟩ := HA9.out.1.sl
 subst e9
 have hS9 : Keep (w9.cell? ⟨p, 0, none⟩ = some (.slice (some ⟨g7, 0, none⟩) csi.length k7)) := ⟨(HD8.out.blk.below G9.out HD8.out.blk.lt).c 0 rfl⟩
 refine hK _ _ hS9.out fun hH2 => ?_
 clear hK
 simp only [Act.put, pqA, pqB, pqC]
 refine TkG (i := 15) (oi := ⟨some 91, Op.indexAddr 22 (Operand.tmp 79) (Operand.tmp 80), 0, _, _, none⟩) (v := .pointer (some ⟨g7, i * 3, none⟩)) rfl hH2 ?_
 refine TkG (i := 16) (oi := ⟨some 92, Op.fieldAddr 49 (Operand.tmp 91) 1, 0, _, _, none⟩) (v := .pointer (some ⟨g7, i * 3 + 1, none⟩)) rfl hH2 ?_
 refine wpAnyH_ready (rs := [17]) (by kernel_rfl) (by simp) ?_
 refine AllReadyH.cons (o := ⟨none, Op.store 40 (Operand.tmp 92) (Operand.tmp 90), 0, _, _, none⟩) rfl (fun K hK => ?_) AllReadyH.nil
 rw [if_pos (by rfl)]
 have f_o : w9.frozen? ⟨g7, i * 3 + 1, none⟩ = false := ownF_frozen (HD8.out.own.below G9.out) _
 have cl : w9.cell? ⟨g7, i * 3 + 1, none⟩ = some (.slice none 0 0) := bcl G9.out ⟨cell_lt HR1.out, HR1.out⟩
 refine wp_cellS (w9.setCell ⟨g7, i * 3 + 1, none⟩ (.slice a9 n9 k9)) (by go_simp) ?_
 clear f_o cl
 refine hK _ _ ((Grown.setCell w9 g7 (i * 3 + 1) _ (S := fun k => k = g7) fun _ => rfl).cell hS9.out (fun e => hgp.out.1 e.symm)) fun hH3 => ?_
 clear hK
 simp only [Act.put, pqA, pqB, pqC]
 refine wpAnyH_done (by kernel_rfl) ?_ _
 refine hK16 _ _ ?_
 refine wp_seq_k fun K17 hK17 => ?_
 obtain ⟨w10, hw10⟩ : ∃ wx, Keep (wx = w9.setCell ⟨g7, i * 3 + 1, none⟩ (.slice a9 n9 k9)) := ⟨_, ⟨rfl⟩⟩
 rw [← hw10.out]
 have HD10 : Keep (DskAt w10 p (.slice (some ⟨g7, 0, none⟩) csi.length k7) (csi.set i (⟨n, .slice a9 n9 k9, 0⟩ : FC)) { D with fs := D.fs.take i ++ [⟨n, l, 0⟩] ++ D.fs.drop i }) := ⟨by rw [hw10.out]; exact dsk_put HD8.out HA9.out G9.out hcsi.out hil.out⟩
 have G10 : Keep (Grown wz w10 fun k => k = p) := ⟨by rw [hw10.out]; exact (G8.out.trans (Grown.below G9.out |>.mono (fun k _ h => h) (S := fun k => k = p))).next (Grown.setCell w9 g7 _ _ (S := fun k => k = g7) fun _ => rfl) fun k hk e => by have := hgp.out; omega⟩
 have N10 : Keep (∀ k, DskS p (.slice (some ⟨g7, 0, none⟩) csi.length k7) (csi.set i (⟨n, .slice a9 n9 k9, 0⟩ : FC)) k → DskS p (.slice va cs.length vc) cs k ∨ wz.heap.size ≤ k) := ⟨dsk_new (by have := N7.out g7 rfl; exact N7.out) hcsi.out hil.out (fun k hk => by have h := own_new (B := w8.heap.size) HA9.out (Nat.le_refl _) (fun j hj => by cases hj) k hk; have := G8.out.size; omega)⟩
 clear HD8 HA9 G9 G8 hw10 hS9 HR8 HR1 hS0
 have c2 := HD10.out.blk.c 2 (by rfl : (stA (.slice (some ⟨g7, 0, none⟩) csi.length k7) { D with fs := D.fs.take i ++ [⟨n, l, 0⟩] ++ D.fs.drop i })[2]? = some (.int .i64 D.used))
 have f_o := HD10.out.blk.frozen 2
 have hwu : IntKind.i64.wrap (D.used + (l.length : Int)) = D.used + (l.length : Int) := by rw [IntKind.wrap_i64]; have := HU.out; omega
 refine rgn ?_
 refine VlS (.pointer (some ⟨p, 0, none⟩)) ?_
 refine VlS (.pointer (some ⟨p, 0, none⟩)) ?_
 refine VlS (.pointer (some ⟨p, 2, none⟩)) ?_
 refine VlS (.int .i64 D.used) ?_
 refine VlS (.slice ba l.length bc) ?_
 refine VlS (.int .i64 (l.length : Int)) ?_
 refine VlS (.int .i64 (D.used + (l.length : Int))) ?_
 refine VlS (.pointer (some ⟨p, 0, none⟩)) ?_
 refine VlS (.pointer (some ⟨p, 2, none⟩)) ?_
 refine WL.cell (by kernel_rfl) (w10.setCell ⟨p, 2, none⟩ (.int .i64 (D.used + (l.length : Int)))) (by go_simp) ?_
 clear f_o c2
 have HD11 : Keep (DskAt (w10.setCell ⟨p, 2, none⟩ (.int .i64 (D.used + (l.length : Int)))) p (.slice (some ⟨g7, 0, none⟩) csi.length k7) (csi.set i (⟨n, .slice a9 n9 k9, 0⟩ : FC)) { D with fs := D.fs.take i ++ [⟨n, l, 0⟩] ++ D.fs.drop i, used := D.used + (l.length : Int) }) := ⟨HD10.out.put rfl rfl⟩
 have G11 : Keep (Grown wz (w10.setCell ⟨p, 2, none⟩ (.int .i64 (D.used + (l.length : Int)))) fun k => k = p) := ⟨G10.out.trans (Grown.setCell w10 p 2 _ fun _ => rfl)⟩
 clear HD10 G10
 generalize w10.setCell ⟨p, 2, none⟩ (.int .i64 (D.used + (l.length : Int))) = w11 at *
 simp only [Act.put]
 refine WL.nil (hK17 _ _ ?_)
 refine wp_seq_k fun K18 hK18 => ?_
 refine wp_seq_k fun K19 hK19 => rgn ?_
 refine VlS (.pointer (some ⟨p, 0, none⟩)) ?_
 have hac := act_any p _ _ _ w11 HD11.out HA.out ⟨HFu.out.1, HFu.out.2⟩
 refine WL.callF (by kernel_rfl) 50 _ _ rfl Tryz.in50 #[ptr p] (by simp [Act.eval]) ?_
 refine (hac).mono ?_
 rintro e wq ⟨rfl, h1, h2⟩
 refine ⟨_, rfl, ?_⟩
 have HD12 := Keep.mk h1
 have G12 : Keep (Grown wz wq fun k => k = p) := ⟨G11.out.trans h2⟩
 clear h1 h2 hac
 simp only [Act.put, pqA, pqB, pqC]
 rcases Decidable.em (D.fuse = 0) with hfu | hfu
 ·rw [show decide (D.fuse = 0) = true from decide_eq_true hfu]
  refine WL.nil (hK19 _ _ ?_)
  refine wp_cond_true rfl ?_
  refine wp_seq_k fun K20 hK20 => rgn ?_
  refine VlS (.int .i64 7) ?_
  refine WL.nil (hK20 _ _ ?_)
  refine wp_ret ?_
  go_ret
  exact ⟨by unfold pw; rw [if_pos hfu]; rfl, _, _, HD12.out, G12.out, N10.out⟩
 ·rw [show decide (D.fuse = 0) = false from decide_eq_false hfu]
  refine WL.nil (hK19 _ _ ?_)
  refine wp_cond_false rfl ?_
  refine wp_skip ?_
  refine hK18 _ _ ?_
  refine wp_seq_k fun K21 hK21 => rgn ?_
  refine VlS (.int .i64 0) ?_
  refine WL.nil (hK21 _ _ ?_)
  refine wp_ret ?_
  go_ret
  exact ⟨by unfold pw; rw [if_neg hfu]; rfl, _, _, HD12.out, G12.out, N10.out⟩
theorem append_new (d p i : Nat) (n : ByteArray) (v vf : Value) (l : List Int) (cs : List FC) (D : DV) (w : World) (hDk : Blk w d 67 #[ptr p]) (hD : DskAt w p vf cs D) (hO : D.out = false) (hRg : rgt n = true) (hF : fnd n D.fs 0 = (i, false)) (hL : cs.length < 256)
  (hU : 0 ≤ D.used ∧ 0 ≤ D.room ∧ D.room ≤ 9223372036854775807 ∧ D.used + (l.length : Int) ≤ 70368744177664 ∧ (l.length : Int) ≤ D.room - D.used) (hA : 0 ≤ D.acts ∧ D.acts ≤ 4611686018427387904) (hFu : -9223372036854775808 < D.fuse ∧ D.fuse ≤ 9223372036854775807 ∧ ¬ D.fuse = 0) (hR : RowAt w v l) (hRp : ∀ k, v.ownBlock = some k → k ≠ p) :
  Calls Tryz.prog 15 #[ptr d, .string n, v] w fun e w' => e = .returned (.int .i64 0) ∧ ∃ vf' cs', DskAt w' p vf' cs' (D.appNew i n l) ∧ (Grown w w' fun k => k = p) ∧ ∀ k, DskS p vf' cs' k → DskS p vf cs k ∨ w.heap.size ≤ k :=
 (app_new d p i n v vf l cs D w hDk hD hO hRg hF hL hU hA ⟨hFu.1, hFu.2.1⟩ hR hRp).mono fun e w' ⟨h1, h2⟩ => ⟨by rw [h1]; unfold pw; rw [if_neg hFu.2.2], h2⟩
theorem ownF_off {w : World} {g n c : Nat} {l : List FC} (h : OwnF w (.slice (some ⟨g, 0, none⟩) n c) l) {a b : Nat} {v : Value} (hab : a ≠ b) : (w.setCell ⟨g, a, none⟩ v).cell? ⟨g, b, none⟩ = w.cell? ⟨g, b, none⟩ := by
 rcases h.form with ⟨e, _⟩ | ⟨g', cap, cur, e, hb, _⟩
 ·cases e
 ·injection e with e1 e2 e3
  injection e1 with e1
  injection e1 with e1
  subst e1
  rw [(hb.set a v).cell, hb.cell, Array.getElem?_setIfInBounds_ne hab]
theorem dsk_sync {w : World} {p g n7 k7 i : Nat} {cs : List FC} {D : DV} {x : FC} {f : PF} (h : DskAt w p (.slice (some ⟨g, 0, none⟩) n7 k7) cs D.act) (hx : cs[i]? = some x) (hf : D.fs[i]? = some f) : DskAt (w.drew.setCell ⟨g, i * 3 + 2, none⟩ (.int .i64 (f.bs.length : Int))) p (.slice (some ⟨g, 0, none⟩) n7 k7) (cs.set i { x with sf := (f.bs.length : Int) }) (D.act.sync i) := by
 have hg : Grown w (w.drew.setCell ⟨g, i * 3 + 2, none⟩ (.int .i64 (f.bs.length : Int))) fun k => k = g := (Grown.refl w _).drew.trans (Grown.setCell w.drew g _ _ fun _ => rfl)
 have ht : Typ w g 49 := h.own.typ rfl
 refine ⟨hg.blk h.blk fun e => ?_, OwnF.set (w := w.drew) h.own hx (by omega) rfl, ?_⟩
 ·subst e; have := ht.one h.blk.typ; revert this; decide
 ·exact h.fcs.sync hx hf fun y l ho => ho.grown hg fun k hk e => by subst e; have := (ho.typ hk).one ht; revert this; decide
theorem dskS_sync {p : Nat} {vf : Value} {cs : List FC} {i : Nat} {x : FC} {z : Int} (hx : cs[i]? = some x) {k : Nat} (h : DskS p vf (cs.set i { x with sf := z }) k) : DskS p vf cs k := by
 rcases h with h | h | ⟨j, y, hy, hk⟩
 ·exact .inl h
 ·exact .inr (.inl h)
 ·by_cases e : i = j
  ·subst e
   rw [List.getElem?_set_self (List.getElem?_eq_some_iff.1 hx).1] at hy
   injection hy with hy
   subst hy
   exact .inr (.inr ⟨i, x, hx, hk⟩)
  ·rw [List.getElem?_set_ne e] at hy
   exact .inr (.inr ⟨j, y, hy, hk⟩)
set_option maxRecDepth 8000 in
set_option maxHeartbeats 2000000 in
theorem syn_is (d p i : Nat) (n : ByteArray) (vf : Value) (cs : List FC) (D : DV) (w : World) (hDk : Blk w d 67 #[ptr p]) (hD : DskAt w p vf cs D) (hO : D.out = false) (hF : fnd n D.fs 0 = (i, true)) (hL : cs.length ≤ 256) (hA : 0 ≤ D.acts ∧ D.acts ≤ 4611686018427387904) (hFu : -9223372036854775808 < D.fuse ∧ D.fuse ≤ 9223372036854775807 ) :
  Calls Tryz.prog 30 #[ptr d, .string n] w fun e w' => e = .returned (.int .i64 (pw D)) ∧ ∃ cs', DskAt w' p vf cs' (if D.fuse = 0 then D.act else D.act.sync i) ∧ (Grown w w' fun k => k = p ∨ vf.ownBlock = some k) ∧ ∀ k, DskS p vf cs' k → DskS p vf cs k := by
 obtain ⟨va, vc, rfl⟩ := hD.own.sl
 have HDk := Keep.mk hDk
 have HD := Keep.mk hD
 have HO := Keep.mk hO
 have HF := Keep.mk hF
 have HL := Keep.mk hL
 have HA := Keep.mk hA
 have HFu := Keep.mk hFu
 clear hDk hD hO hF hL hA hFu
 go_enter Tryz.func30, Tryz.ntmps30
 have cd := HDk.out.c 0 (by rfl : (#[ptr p] : Array Value)[0]? = some (ptr p))
 have c4 : w.cell? ⟨p, 4, none⟩ = some (.bool false) := by have h := HD.out.blk.c 4 (by rfl : (stA (.slice va cs.length vc) D)[4]? = some (.bool D.out)); rw [HO.out] at h; exact h
 refine wp_seq_k fun K1 hK1 => rgn ?_
 refine VlS (.int .i64 0) ?_
 refine WL.nil (hK1 _ _ ?_)
 refine wp_seq_k fun K2 hK2 => rgn ?_
 refine VlS (.pointer (some ⟨d, 0, none⟩)) ?_
 refine VlS (.pointer (some ⟨d, 0, none⟩)) ?_
 refine VlS (.pointer (some ⟨d, 0, none⟩)) ?_
 refine VlS (.pointer (some ⟨p, 0, none⟩)) ?_
 refine VlS (.pointer (some ⟨p, 0, none⟩)) ?_
 refine WL.nil (hK2 _ _ ?_)
 refine wp_seq_k fun K3 hK3 => ?_
 refine wp_seq_k fun K4 hK4 => rgn ?_
 refine VlS (.pointer (some ⟨p, 0, none⟩)) ?_
 refine VlS (.pointer (some ⟨p, 0, none⟩)) ?_
 refine VlS (.pointer (some ⟨p, 4, none⟩)) ?_
 refine VbF ?_
 refine WL.nil (hK4 _ _ ?_)
 refine wp_cond_false rfl ?_
 refine wp_skip ?_
 refine hK3 _ _ ?_
 refine wp_seq_k fun K5 hK5 => rgn ?_
 refine VlS (.pointer (some ⟨p, 0, none⟩)) ?_
 refine VlS (.string n) ?_
 clear cd c4
 have hfd := find_any p n _ cs D w HD.out (by have := HL.out; omega)
 rw [HF.out] at hfd
 refine WL.callF (by kernel_rfl) 25 _ _ rfl Tryz.in25 #[ptr p, .string n] (by simp [Act.eval]) ?_
 refine (hfd).mono ?_
 rintro e w1 ⟨rfl, hb1⟩
 refine ⟨_, rfl, ?_⟩
 have HD1 := Keep.mk (HD.out.below hb1)
 have B1 := Keep.mk hb1
 clear hb1 hfd
 simp only [Act.put, pqA, pqB, pqC]
 refine VlS (.tuple #[.int .i64 (i : Int), .bool true]) ?_
 refine VlS (.int .i64 (i : Int)) ?_
 refine VbT ?_
 refine VlS (.int .i64 (i : Int)) ?_
 refine VbT ?_
 refine WL.nil (hK5 _ _ ?_)
 refine wp_seq_k fun K6 hK6 => ?_
 refine wp_seq_k fun K7 hK7 => rgn ?_
 refine VbT ?_
 refine VbF ?_
 refine WL.nil (hK7 _ _ ?_)
 refine wp_cond_false rfl ?_
 refine wp_skip ?_
 refine hK6 _ _ ?_
 refine wp_seq_k fun K8 hK8 => ?_
 refine wp_seq_k fun K9 hK9 => rgn ?_
 refine VlS (.pointer (some ⟨p, 0, none⟩)) ?_
 have hac := act_any p _ _ _ w1 HD1.out HA.out ⟨HFu.out.1, HFu.out.2⟩
 refine WL.callF (by kernel_rfl) 50 _ _ rfl Tryz.in50 #[ptr p] (by simp [Act.eval]) ?_
 refine (hac).mono ?_
 rintro e wq ⟨rfl, h1, h2⟩
 refine ⟨_, rfl, ?_⟩
 have HD2 := Keep.mk h1
 have G2 : Keep (Grown w wq fun k => k = p) := ⟨(Grown.below B1.out).trans h2⟩
 clear h1 h2 hac HD1
 simp only [Act.put, pqA, pqB, pqC]
 rcases Decidable.em (D.fuse = 0) with hfu | hfu
 ·rw [show decide (D.fuse = 0) = true from decide_eq_true hfu]
  refine WL.nil (hK9 _ _ ?_)
  refine wp_cond_true rfl ?_
  refine wp_seq_k fun K10 hK10 => rgn ?_
  refine VlS (.int .i64 7) ?_
  refine WL.nil (hK10 _ _ ?_)
  refine wp_ret ?_
  go_ret
  exact ⟨by unfold pw; rw [if_pos hfu]; rfl, cs, by rw [if_pos hfu]; exact HD2.out, G2.out.mono fun k _ h => .inl h, fun k hk => hk⟩
 ·rw [show decide (D.fuse = 0) = false from decide_eq_false hfu]
  refine WL.nil (hK9 _ _ ?_)
  refine wp_cond_false rfl ?_
  refine wp_skip ?_
  refine hK8 _ _ ?_
  refine wp_seq_k fun K11 hK11 => ?_
  obtain ⟨f_, hf_⟩ : ∃ f, D.fs[i]? = some f := by obtain ⟨j, f, h1, h2⟩ := fnd_at n D.fs 0 (by rw [HF.out]); rw [HF.out] at h1; simp at h1; subst h1; exact ⟨f, h2⟩
  have hci : i < cs.length := by have h := HD2.out.fcs.len; have h2 := (List.getElem?_eq_some_iff.1 hf_).1; have e : D.act.fs = D.fs := rfl; rw [e] at h; omega
  obtain ⟨x, hx⟩ : ∃ x, cs[i]? = some x := ⟨cs[i], List.getElem?_eq_getElem hci⟩
  have HX := Keep.mk hx
  have HFI := Keep.mk hf_
  obtain ⟨g, ha, hrg⟩ := HD2.out.own.at hx
  subst ha
  have hec := HD2.out.fcs.each i x f_ hx hf_
  obtain ⟨ba, bc, hxb⟩ := row_form hec.2.2.row
  have hci' : (i : Int) < (cs.length : Int) := by omega
  have hS0 : Keep (wq.drew.cell? ⟨p, 0, none⟩ = some (.slice (some ⟨g, 0, none⟩) cs.length vc) ∧ wq.drew.cell? ⟨g, i * 3 + 1, none⟩ = some (.slice ba f_.bs.length bc)) := ⟨HD2.out.blk.drew.c 0 rfl, by have h := hrg 1 x.b rfl; rw [hxb] at h; exact h⟩
  have hgp : Keep (g ≠ p) := ⟨fun e => HD2.out.own.ne HD2.out.blk (by decide) (by rw [e]; rfl)⟩
  have cl : Keep (wq.drew.cell? ⟨g, i * 3 + 2, none⟩ = some (.int .i64 x.sf)) := ⟨hrg 2 _ rfl⟩
  clear hrg hec hx hf_ hxb hci
  refine wp_region_held_drew (S := fun wx => wx.cell? ⟨p, 0, none⟩ = some (.slice (some ⟨g, 0, none⟩) cs.length vc) ∧ wx.cell? ⟨g, i * 3 + 1, none⟩ = some (.slice ba f_.bs.length bc)) (by kernel_rfl) (hS0.out) (fun hHeld => ?_)
  refine TkJ (i := 0) (oi := ⟨some 26, Op.move (Operand.tmp 5), 65, _, _, none⟩) (v := .pointer (some ⟨p, 0, none⟩)) rfl hHeld ?_
  refine TkJ (i := 1) (oi := ⟨some 27, Op.nilCheck (Operand.tmp 26), 0, _, _, none⟩) (v := .pointer (some ⟨p, 0, none⟩)) rfl hHeld ?_
  refine TkJ (i := 2) (oi := ⟨some 28, Op.fieldAddr 71 (Operand.tmp 27) 0, 0, _, _, none⟩) (v := .pointer (some ⟨p, 0, none⟩)) rfl hHeld ?_
  refine TkJ (i := 3) (oi := ⟨some 29, Op.load 22 (Operand.tmp 28), 22, _, _, none⟩) (v := .slice (some ⟨g, 0, none⟩) cs.length vc) rfl hHeld ?_
  refine TkJ (i := 4) (oi := ⟨some 30, Op.move (Operand.tmp 6), 3, _, _, none⟩) (v := .int .i64 (i : Int)) rfl hHeld ?_
  refine TkJ (i := 5) (oi := ⟨some 31, Op.move (Operand.tmp 5), 65, _, _, none⟩) (v := .pointer (some ⟨p, 0, none⟩)) rfl hHeld ?_
  refine TkJ (i := 6) (oi := ⟨some 32, Op.nilCheck (Operand.tmp 31), 0, _, _, none⟩) (v := .pointer (some ⟨p, 0, none⟩)) rfl hHeld ?_
  refine TkJ (i := 7) (oi := ⟨some 33, Op.fieldAddr 71 (Operand.tmp 32) 0, 0, _, _, none⟩) (v := .pointer (some ⟨p, 0, none⟩)) rfl hHeld ?_
  refine TkJ (i := 8) (oi := ⟨some 34, Op.load 22 (Operand.tmp 33), 22, _, _, none⟩) (v := .slice (some ⟨g, 0, none⟩) cs.length vc) rfl hHeld ?_
  refine TkJ (i := 9) (oi := ⟨some 35, Op.move (Operand.tmp 6), 3, _, _, none⟩) (v := .int .i64 (i : Int)) rfl hHeld ?_
  refine TkJ (i := 10) (oi := ⟨some 36, Op.indexAddr 22 (Operand.tmp 34) (Operand.tmp 35), 0, _, _, none⟩) (v := .pointer (some ⟨g, i * 3, none⟩)) rfl hHeld ?_
  refine TkJ (i := 11) (oi := ⟨some 37, Op.fieldAddr 49 (Operand.tmp 36) 1, 0, _, _, none⟩) (v := .pointer (some ⟨g, i * 3 + 1, none⟩)) rfl hHeld ?_
  refine TkJ (i := 12) (oi := ⟨some 38, Op.load 40 (Operand.tmp 37), 40, _, _, none⟩) (v := .slice ba f_.bs.length bc) rfl hHeld ?_
  refine TkJ (i := 13) (oi := ⟨some 39, Op.call { callee := Callee.builtin Builtin.len, args := #[Operand.tmp 38], argTypes := #[40] }, 3, _, _, none⟩) (v := .int .i64 (f_.bs.length : Int)) rfl hHeld ?_
  refine TkJ (i := 14) (oi := ⟨some 40, Op.indexAddr 22 (Operand.tmp 29) (Operand.tmp 30), 0, _, _, none⟩) (v := .pointer (some ⟨g, i * 3, none⟩)) rfl hHeld ?_
  refine TkJ (i := 15) (oi := ⟨some 41, Op.fieldAddr 49 (Operand.tmp 40) 2, 0, _, _, none⟩) (v := .pointer (some ⟨g, i * 3 + 2, none⟩)) rfl hHeld ?_
  refine wpAnyH_ready (rs := [16]) (by kernel_rfl) (by simp) ?_
  refine AllReadyH.cons (o := ⟨none, Op.store 3 (Operand.tmp 41) (Operand.tmp 39), 0, _, _, none⟩) rfl (fun K hK => ?_) AllReadyH.nil
  rw [if_pos (by rfl)]
  have f_o : wq.drew.frozen? ⟨g, i * 3 + 2, none⟩ = false := ownF_frozen (l := cs) HD2.out.own _
  have cl := cl.out
  refine wp_cellS (wq.drew.setCell ⟨g, i * 3 + 2, none⟩ (.int .i64 (f_.bs.length : Int))) (by go_simp) ?_
  clear f_o cl
  refine hK _ _ ⟨(Grown.setCell wq.drew g (i * 3 + 2) _ (S := fun k => k = g) fun _ => rfl).cell hS0.out.1 (fun e => hgp.out e.symm), by rw [ownF_off (w := wq.drew) (l := cs) HD2.out.own (by omega)]; exact hS0.out.2⟩ fun hH9 => ?_
  clear hK
  simp only [Act.put, pqA, pqB, pqC]
  refine wpAnyH_done (by kernel_rfl) ?_ _
  refine hK11 _ _ ?_
  refine wp_seq_k fun K12 hK12 => rgn ?_
  refine VlS (.int .i64 0) ?_
  refine WL.nil (hK12 _ _ ?_)
  refine wp_ret ?_
  go_ret
  exact ⟨by unfold pw; rw [if_neg hfu]; rfl, _, by rw [if_neg hfu]; exact dsk_sync HD2.out HX.out HFI.out, (G2.out.mono (fun k _ h => .inl h)).next ((Grown.refl wq (fun k => k = g)).drew.trans (Grown.setCell wq.drew g (i * 3 + 2) _ fun _ => rfl)) fun k hk e => .inr (by rw [e]; rfl), fun k hk => dskS_sync HX.out hk⟩
theorem sync_is (d p i : Nat) (n : ByteArray) (vf : Value) (cs : List FC) (D : DV) (w : World) (hDk : Blk w d 67 #[ptr p]) (hD : DskAt w p vf cs D) (hO : D.out = false) (hF : fnd n D.fs 0 = (i, true)) (hL : cs.length ≤ 256) (hA : 0 ≤ D.acts ∧ D.acts ≤ 4611686018427387904) (hFu : -9223372036854775808 < D.fuse ∧ D.fuse ≤ 9223372036854775807 ∧ ¬ D.fuse = 0) :
  Calls Tryz.prog 30 #[ptr d, .string n] w fun e w' => e = .returned (.int .i64 0) ∧ ∃ cs', DskAt w' p vf cs' (D.act.sync i) ∧ (Grown w w' fun k => k = p ∨ vf.ownBlock = some k) ∧ ∀ k, DskS p vf cs' k → DskS p vf cs k :=
 (syn_is d p i n vf cs D w hDk hD hO hF hL hA ⟨hFu.1, hFu.2.1⟩).mono fun e w' ⟨h1, h2⟩ => ⟨by rw [h1]; unfold pw; rw [if_neg hFu.2.2], by rw [if_neg hFu.2.2] at h2; exact h2⟩
theorem Tryz.in39 (w : World) (vs : Array Value) : (callFunc 39 vs).run Tryz.prog w = .ok (.enter 39 vs) w := by kernel_rfl
theorem Tryz.in41 (w : World) (vs : Array Value) : (callFunc 41 vs).run Tryz.prog w = .ok (.enter 41 vs) w := by kernel_rfl
theorem Tryz.in48 (w : World) (vs : Array Value) : (callFunc 48 vs).run Tryz.prog w = .ok (.enter 48 vs) w := by kernel_rfl
def PF.app (f : PF) (l : List Int) : PF := { f with bs := f.bs ++ l }
def DV.appIs (D : DV) (i : Nat) (f : PF) (l : List Int) : DV := DV.act { D with fs := D.fs.set i (f.app l), used := D.used + (l.length : Int) }
theorem dsk_app {w w9 : World} {p g n7 k7 i : Nat} {cs : List FC} {D : DV} {x : FC} {f : PF} {l : List Int} {v9 : Value} (h : DskAt w p (.slice (some ⟨g, 0, none⟩) n7 k7) cs D) (hx : cs[i]? = some x) (hf : D.fs[i]? = some f) (ha : AppPost w.drew x.b (f.bs ++ l) v9 w9) :
  DskAt (w9.setCell ⟨g, i * 3 + 1, none⟩ v9) p (.slice (some ⟨g, 0, none⟩) n7 k7) (cs.set i { x with b := v9 }) { D with fs := D.fs.set i (f.app l) } := by
 have hxf := h.fcs.each i x f hx hf
 have g1 : Grown w w9 fun k => x.b.ownBlock = some k := (Grown.refl w _).drew.trans ha.grown
 have htx : ∀ k, x.b.ownBlock = some k → Typ w k 5 := fun k hk => hxf.2.2.typ hk
 have hg : Grown w9 (w9.setCell ⟨g, i * 3 + 1, none⟩ v9) fun k => k = g := Grown.setCell w9 g _ _ fun _ => rfl
 have ho9 : OwnF w9 (.slice (some ⟨g, 0, none⟩) n7 k7) cs := h.own.grown g1 fun k hk e => by have := (htx k e).one (h.own.typ hk); revert this; decide
 have ht : Typ w9 g 49 := ho9.typ rfl
 have hb9 : Blk w9 p 71 (stA (.slice (some ⟨g, 0, none⟩) n7 k7) D) := g1.blk h.blk fun e => by have := (htx p e).one h.blk.typ; revert this; decide
 have hl : i < cs.length := (List.getElem?_eq_some_iff.1 hx).1
 refine ⟨hg.blk hb9 fun e => ?_, ho9.set hx (by omega) rfl, ?_⟩
 ·subst e; have := ht.one hb9.typ; revert this; decide
 ·refine h.fcs.set hl ⟨hxf.1, hxf.2.1, ?_⟩ (fun j y z hj hy hz => ?_) (fun j y k hj hy hk hyk => ?_)
  ·exact ha.1.grown hg fun k hk e => by subst e; have := (ha.1.typ hk).one ht; revert this; decide
  ·have h1 := h.fcs.each j y z hy hz
   refine ⟨h1.1, h1.2.1, (h1.2.2.grown g1 fun k hk e => ?_).grown hg fun k hk e => ?_⟩
   ·exact h.fcs.apart j i y x hy hx hj k hk e
   ·subst e; have := ((h1.2.2.grown g1 fun k hk e => h.fcs.apart j i y x hy hx hj k hk e).typ hk).one ht; revert this; decide
  ·have hjl := (List.getElem?_eq_some_iff.1 hy).1
   rw [h.fcs.len] at hjl
   have h2 := (h.fcs.each j y _ hy (List.getElem?_eq_getElem hjl)).2.2.lt k hyk
   rcases ha.moved with e | ⟨q, e, hq⟩
   ·rw [hk] at e; exact h.fcs.apart j i y x hy hx hj k hyk e.symm
   ·rw [hk] at e; have := Option.some.inj e; have : w.heap.size ≤ q := hq; omega
theorem dskS_app {w w9 : World} {p : Nat} {vf : Value} {cs : List FC} {i : Nat} {x : FC} {m : List Int} {v9 : Value} (hx : cs[i]? = some x) (ha : AppPost w x.b m v9 w9) {k : Nat} (h : DskS p vf (cs.set i { x with b := v9 }) k) : DskS p vf cs k ∨ w.heap.size ≤ k := by
 rcases h with h | h | ⟨j, y, hy, hk⟩
 ·exact .inl (.inl h)
 ·exact .inl (.inr (.inl h))
 ·by_cases e : i = j
  ·subst e
   rw [List.getElem?_set_self (List.getElem?_eq_some_iff.1 hx).1] at hy
   injection hy with hy
   subst hy
   rcases ha.moved with e | ⟨q, e, hq⟩
   ·exact .inl (.inr (.inr ⟨i, x, hx, by rw [← e]; exact hk⟩))
   ·right; have hk : v9.ownBlock = some k := hk; rw [hk] at e; have := Option.some.inj e; omega
  ·rw [List.getElem?_set_ne e] at hy
   exact .inl (.inr (.inr ⟨j, y, hy, hk⟩))
set_option maxRecDepth 8000 in
set_option maxHeartbeats 2000000 in
theorem app_is (d p i : Nat) (n : ByteArray) (v vf : Value) (l : List Int) (cs : List FC) (D : DV) (f : PF) (w : World) (hDk : Blk w d 67 #[ptr p]) (hD : DskAt w p vf cs D) (hO : D.out = false) (hRg : rgt n = true) (hF : fnd n D.fs 0 = (i, true)) (hFi : D.fs[i]? = some f) (hFl : (f.bs.length : Int) ≤ D.used) (hL : cs.length ≤ 256)
  (hU : 0 ≤ D.used ∧ 0 ≤ D.room ∧ D.room ≤ 9223372036854775807 ∧ D.used + (l.length : Int) ≤ 70368744177664 ∧ (l.length : Int) ≤ D.room - D.used) (hA : 0 ≤ D.acts ∧ D.acts ≤ 4611686018427387904) (hFu : -9223372036854775808 < D.fuse ∧ D.fuse ≤ 9223372036854775807) (hR : RowAt w v l) :
  Calls Tryz.prog 15 #[ptr d, .string n, v] w fun e w' => e = .returned (.int .i64 (pw D)) ∧ ∃ vf' cs', DskAt w' p vf' cs' (D.appIs i f l) ∧ (Grown w w' (DskS p vf cs)) ∧ ∀ k, DskS p vf' cs' k → DskS p vf cs k ∨ w.heap.size ≤ k := by
 obtain ⟨va, vc, rfl⟩ := hD.own.sl
 obtain ⟨ba, bc, rfl⟩ := row_form hR
 have HDk := Keep.mk hDk
 have HD := Keep.mk hD
 have HO := Keep.mk hO
 have HRg := Keep.mk hRg
 have HF := Keep.mk hF
 have HFi := Keep.mk hFi
 have HFl := Keep.mk hFl
 have HL := Keep.mk hL
 have HU := Keep.mk hU
 have HA := Keep.mk hA
 have HFu := Keep.mk hFu
 have HR := Keep.mk hR
 clear hDk hD hO hRg hF hFi hFl hL hU hA hFu hR
 go_enter Tryz.func15, Tryz.ntmps15
 have cd := HDk.out.c 0 (by rfl : (#[ptr p] : Array Value)[0]? = some (ptr p))
 have c4 : w.cell? ⟨p, 4, none⟩ = some (.bool false) := by have h := HD.out.blk.c 4 (by rfl : (stA (.slice va cs.length vc) D)[4]? = some (.bool D.out)); rw [HO.out] at h; exact h
 refine wp_seq_k fun K1 hK1 => rgn ?_
 refine VlS (.int .i64 0) ?_
 refine WL.nil (hK1 _ _ ?_)
 refine wp_seq_k fun K2 hK2 => rgn ?_
 refine VlS (.pointer (some ⟨d, 0, none⟩)) ?_
 refine VlS (.pointer (some ⟨d, 0, none⟩)) ?_
 refine VlS (.pointer (some ⟨d, 0, none⟩)) ?_
 refine VlS (.pointer (some ⟨p, 0, none⟩)) ?_
 refine VlS (.pointer (some ⟨p, 0, none⟩)) ?_
 refine WL.nil (hK2 _ _ ?_)
 refine wp_seq_k fun K3 hK3 => ?_
 refine wp_seq_k fun K4 hK4 => rgn ?_
 refine VlS (.pointer (some ⟨p, 0, none⟩)) ?_
 refine VlS (.pointer (some ⟨p, 0, none⟩)) ?_
 refine VlS (.pointer (some ⟨p, 4, none⟩)) ?_
 refine VbF ?_
 refine WL.nil (hK4 _ _ ?_)
 refine wp_cond_false rfl ?_
 refine wp_skip ?_
 refine hK3 _ _ ?_
 refine wp_seq_k fun K5 hK5 => ?_
 refine wp_seq_k fun K6 hK6 => rgn ?_
 refine VlS (.string n) ?_
 clear cd c4
 have hrt := right_any n w
 rw [HRg.out] at hrt
 refine WL.callF (by kernel_rfl) 26 _ _ rfl Tryz.in26 #[.string n] (by simp [Act.eval]) ?_
 refine (hrt).mono ?_
 rintro e wz ⟨rfl, hz⟩
 refine ⟨_, rfl, ?_⟩
 subst hz
 clear hrt
 simp only [Act.put, pqA, pqB, pqC]
 refine VbF ?_
 refine WL.nil (hK6 _ _ ?_)
 refine wp_cond_false rfl ?_
 refine wp_skip ?_
 refine hK5 _ _ ?_
 refine wp_seq_k fun K7 hK7 => rgn ?_
 refine VlS (.pointer (some ⟨p, 0, none⟩)) ?_
 refine VlS (.string n) ?_
 have hfd := find_any p n _ cs D wz HD.out (by have := HL.out; omega)
 rw [HF.out] at hfd
 refine WL.callF (by kernel_rfl) 25 _ _ rfl Tryz.in25 #[ptr p, .string n] (by simp [Act.eval]) ?_
 refine (hfd).mono ?_
 rintro e w1 ⟨rfl, hb1⟩
 refine ⟨_, rfl, ?_⟩
 have HD1 := Keep.mk (HD.out.below hb1)
 have B1 := Keep.mk hb1
 clear hb1 hfd
 simp only [Act.put, pqA, pqB, pqC]
 refine VlS (.tuple #[.int .i64 (i : Int), .bool true]) ?_
 refine VlS (.int .i64 (i : Int)) ?_
 refine VbT ?_
 refine VlS (.int .i64 (i : Int)) ?_
 refine VbT ?_
 refine WL.nil (hK7 _ _ ?_)
 refine wp_seq_k fun K8 hK8 => ?_
 refine wp_seq_k fun K9 hK9 => rgn ?_
 refine VbT ?_
 refine VbF ?_
 refine VbF ?_
 refine SkS ?_
 refine SkS ?_
 refine SkS ?_
 refine SkS ?_
 refine SkS ?_
 refine SkS ?_
 refine VbF ?_
 refine WL.nil (hK9 _ _ ?_)
 refine wp_cond_false rfl ?_
 refine wp_skip ?_
 refine hK8 _ _ ?_
 refine wp_seq_k fun K10 hK10 => ?_
 refine wp_seq_k fun K11 hK11 => ?_
 have hS0 : Keep (w1.drew.cell? ⟨p, 1, none⟩ = some (.int .i64 D.room) ∧ w1.drew.cell? ⟨p, 2, none⟩ = some (.int .i64 D.used)) := ⟨HD1.out.blk.drew.c 1 rfl, HD1.out.blk.drew.c 2 rfl⟩
 have hwr : IntKind.i64.wrap (D.room - D.used) = D.room - D.used := by rw [IntKind.wrap_i64]; have := HU.out; omega
 have hle : ¬ D.room - D.used < (l.length : Int) := by have := HU.out; omega
 refine wp_region_held_drew (S := fun wx => wx.cell? ⟨p, 1, none⟩ = some (.int .i64 D.room) ∧ wx.cell? ⟨p, 2, none⟩ = some (.int .i64 D.used)) (by kernel_rfl) (hS0.out) (fun hHeld => ?_)
 refine TkJ (i := 0) (oi := ⟨some 38, Op.move (Operand.tmp 2), 40, _, _, none⟩) (v := .slice ba l.length bc) rfl hHeld ?_
 refine TkJ (i := 1) (oi := ⟨some 39, Op.call { callee := Callee.builtin Builtin.len, args := #[Operand.tmp 38], argTypes := #[40] }, 3, _, _, none⟩) (v := .int .i64 (l.length : Int)) rfl hHeld ?_
 refine TkJ (i := 2) (oi := ⟨some 40, Op.move (Operand.tmp 7), 65, _, _, none⟩) (v := .pointer (some ⟨p, 0, none⟩)) rfl hHeld ?_
 refine TkJ (i := 3) (oi := ⟨some 41, Op.nilCheck (Operand.tmp 40), 0, _, _, none⟩) (v := .pointer (some ⟨p, 0, none⟩)) rfl hHeld ?_
 refine TkJ (i := 4) (oi := ⟨some 42, Op.fieldAddr 71 (Operand.tmp 41) 1, 0, _, _, none⟩) (v := .pointer (some ⟨p, 1, none⟩)) rfl hHeld ?_
 refine TkJ (i := 5) (oi := ⟨some 43, Op.load 3 (Operand.tmp 42), 3, _, _, none⟩) (v := .int .i64 D.room) rfl hHeld ?_
 refine TkJ (i := 6) (oi := ⟨some 44, Op.move (Operand.tmp 7), 65, _, _, none⟩) (v := .pointer (some ⟨p, 0, none⟩)) rfl hHeld ?_
 refine TkJ (i := 7) (oi := ⟨some 45, Op.nilCheck (Operand.tmp 44), 0, _, _, none⟩) (v := .pointer (some ⟨p, 0, none⟩)) rfl hHeld ?_
 refine TkJ (i := 8) (oi := ⟨some 46, Op.fieldAddr 71 (Operand.tmp 45) 2, 0, _, _, none⟩) (v := .pointer (some ⟨p, 2, none⟩)) rfl hHeld ?_
 refine TkJ (i := 9) (oi := ⟨some 47, Op.load 3 (Operand.tmp 46), 3, _, _, none⟩) (v := .int .i64 D.used) rfl hHeld ?_
 refine TkJ (i := 10) (oi := ⟨some 48, Op.binOp BinOp.sub 3 (Operand.tmp 43) (Operand.tmp 47) 3, 3, _, _, none⟩) (v := .int .i64 (D.room - D.used)) rfl hHeld ?_
 refine TkJ (i := 11) (oi := ⟨some 49, Op.binOp BinOp.gtr 3 (Operand.tmp 39) (Operand.tmp 48) 3, 4, _, _, none⟩) (v := .bool false) rfl hHeld ?_
 refine wpAnyH_done (by kernel_rfl) ?_ _
 refine hK11 _ _ ?_
 refine wp_cond_false rfl ?_
 refine wp_skip ?_
 refine hK10 _ _ ?_
 refine wp_seq_k fun K12 hK12 => ?_
 refine wp_seq_k fun K13 hK13 => rgn ?_
 refine VbT ?_
 refine VbF ?_
 refine WL.nil (hK13 _ _ ?_)
 refine wp_cond_false rfl ?_
 refine wp_skip ?_
 refine hK12 _ _ ?_
 refine wp_seq_k fun K14 hK14 => ?_
 have HD8 := Keep.mk (HD1.out.grown (Grown.refl w1 (fun _ => False)).drew fun _ _ h => h)
 have B8 : Keep (Below wz.heap.size wz w1.drew) := ⟨B1.out.drew⟩
 clear hS0 hwr hle HD1 B1
 generalize w1.drew = w8 at *
 have HR8 := Keep.mk (HR.out.below B8.out)
 obtain ⟨f_, hf_⟩ : ∃ f, D.fs[i]? = some f := ⟨f, HFi.out⟩
 obtain rfl : f = f_ := Option.some.inj (HFi.out.symm.trans hf_)
 have hci : i < cs.length := by have h := HD8.out.fcs.len; have h2 := (List.getElem?_eq_some_iff.1 hf_).1; omega
 obtain ⟨x, hx⟩ : ∃ x, cs[i]? = some x := ⟨cs[i], List.getElem?_eq_getElem hci⟩
 have HX := Keep.mk hx
 obtain ⟨g7, ha, hrg⟩ := HD8.out.own.at hx
 subst ha
 have hec := HD8.out.fcs.each i x f hx hf_
 have HOx : Keep (Own w8 x.b f.bs) := ⟨hec.2.2⟩
 obtain ⟨xn, xb, xs⟩ := x
 obtain ⟨xa, xm, xc, hxb⟩ := hec.2.2.sl
 change xb = _ at hxb
 subst hxb
 have HR1 : Keep (w8.cell? ⟨g7, i * 3 + 1, none⟩ = some (.slice xa xm xc)) := ⟨hrg 1 _ rfl⟩
 have hgp : Keep (g7 ≠ p) := ⟨fun e => HD8.out.own.ne HD8.out.blk (by decide) (by rw [e]; rfl)⟩
 have hilc : (i : Int) < (cs.length : Int) := by omega
 clear hrg hec hx hf_ hci
 have hS0 : Keep (w8.drew.cell? ⟨p, 0, none⟩ = some (.slice (some ⟨g7, 0, none⟩) cs.length vc)) := ⟨HD8.out.blk.drew.c 0 rfl⟩
 refine wp_region_held_drew (S := fun wx => wx.cell? ⟨p, 0, none⟩ = some (.slice (some ⟨g7, 0, none⟩) cs.length vc)) (by kernel_rfl) (hS0.out) (fun hHeld => ?_)
 refine TkG (i := 0) (oi := ⟨some 76, Op.move (Operand.tmp 7), 65, _, _, none⟩) (v := .pointer (some ⟨p, 0, none⟩)) rfl hHeld ?_
 refine TkG (i := 1) (oi := ⟨some 77, Op.nilCheck (Operand.tmp 76), 0, _, _, none⟩) (v := .pointer (some ⟨p, 0, none⟩)) rfl hHeld ?_
 refine TkG (i := 2) (oi := ⟨some 78, Op.fieldAddr 71 (Operand.tmp 77) 0, 0, _, _, none⟩) (v := .pointer (some ⟨p, 0, none⟩)) rfl hHeld ?_
 refine TkG (i := 3) (oi := ⟨some 79, Op.load 22 (Operand.tmp 78), 22, _, _, none⟩) (v := .slice (some ⟨g7, 0, none⟩) cs.length vc) rfl hHeld ?_
 refine TkG (i := 4) (oi := ⟨some 80, Op.move (Operand.tmp 8), 3, _, _, none⟩) (v := .int .i64 (i : Int)) rfl hHeld ?_
 refine TkG (i := 5) (oi := ⟨some 81, Op.move (Operand.tmp 7), 65, _, _, none⟩) (v := .pointer (some ⟨p, 0, none⟩)) rfl hHeld ?_
 refine TkG (i := 6) (oi := ⟨some 82, Op.nilCheck (Operand.tmp 81), 0, _, _, none⟩) (v := .pointer (some ⟨p, 0, none⟩)) rfl hHeld ?_
 refine TkG (i := 7) (oi := ⟨some 83, Op.fieldAddr 71 (Operand.tmp 82) 0, 0, _, _, none⟩) (v := .pointer (some ⟨p, 0, none⟩)) rfl hHeld ?_
 refine TkG (i := 8) (oi := ⟨some 84, Op.load 22 (Operand.tmp 83), 22, _, _, none⟩) (v := .slice (some ⟨g7, 0, none⟩) cs.length vc) rfl hHeld ?_
 refine TkG (i := 9) (oi := ⟨some 85, Op.move (Operand.tmp 8), 3, _, _, none⟩) (v := .int .i64 (i : Int)) rfl hHeld ?_
 refine TkG (i := 10) (oi := ⟨some 86, Op.indexAddr 22 (Operand.tmp 84) (Operand.tmp 85), 0, _, _, none⟩) (v := .pointer (some ⟨g7, i * 3, none⟩)) rfl hHeld ?_
 refine TkG (i := 11) (oi := ⟨some 87, Op.fieldAddr 49 (Operand.tmp 86) 1, 0, _, _, none⟩) (v := .pointer (some ⟨g7, i * 3 + 1, none⟩)) rfl hHeld ?_
 refine TkG (i := 13) (oi := ⟨some 89, Op.move (Operand.tmp 2), 40, _, _, none⟩) (v := .slice ba l.length bc) rfl hHeld ?_
 refine wpAnyH_ready (rs := [12]) (by kernel_rfl) (by simp) ?_
 refine AllReadyH.cons (o := ⟨some 88, Op.load 40 (Operand.tmp 87), 40, _, _, none⟩) rfl (fun K hK => ?_) AllReadyH.nil
 rw [if_pos (by rfl)]
 have cl : w8.drew.cell? ⟨g7, i * 3 + 1, none⟩ = some (.slice xa xm xc) := HR1.out
 refine wp_val (.slice xa xm xc) (by go_simp) ?_
 clear cl
 refine hK _ _ hS0.out fun hH1 => ?_
 clear hK
 simp only [Act.put, pqA, pqB, pqC]
 refine wpAnyH_ready (rs := [14]) (by kernel_rfl) (by simp) ?_
 refine AllReadyH.cons (o := ⟨some 90, Op.call { callee := Callee.builtin Builtin.append, args := #[Operand.tmp 88, Operand.tmp 89], argTypes := #[40, 40] }, 40, _, _, none⟩) rfl (fun K hK => ?_) AllReadyH.nil
 rw [if_pos (by rfl)]
 refine wp_app (.tmp 88) (.tmp 89) rfl (.slice xa xm xc) (.slice ba l.length bc) f.bs l rfl rfl (HOx.out.grown (Grown.refl w8 (fun _ => False)).drew fun _ _ h => h) (HR8.out.below (Below.refl _ _).drew) (by have := HU.out; have := HFl.out; omega) fun v9 w9 hp => ?_
 have HA9 := Keep.mk hp
 clear hp
 obtain ⟨a9, n9, k9, e9⟩ := HA9.out.1.sl
 subst e9
 have GA9 : Keep (Grown w8 w9 fun k => (Value.slice xa xm xc).ownBlock = some k) := ⟨(Grown.refl w8 _).drew.trans HA9.out.grown⟩
 have hxt : Keep (∀ k, (Value.slice xa xm xc).ownBlock = some k → Typ w8 k 5) := ⟨fun k hk => HOx.out.typ hk⟩
 have HB9 : Keep (Blk w9 p 71 (stA (.slice (some ⟨g7, 0, none⟩) cs.length vc) D)) := ⟨GA9.out.blk HD8.out.blk fun e => by have := (hxt.out p e).one HD8.out.blk.typ; revert this; decide⟩
 have HG9 : Keep (OwnF w9 (.slice (some ⟨g7, 0, none⟩) cs.length vc) cs) := ⟨HD8.out.own.grown GA9.out fun k hk e => by have := (hxt.out k e).one (HD8.out.own.typ hk); revert this; decide⟩
 have C9 : Keep (w9.cell? ⟨g7, i * 3 + 1, none⟩ = some (.slice xa xm xc)) := ⟨GA9.out.cell HR1.out fun e => by have := (hxt.out g7 e).one (HD8.out.own.typ rfl); revert this; decide⟩
 refine hK _ _ (HB9.out.c 0 rfl) fun hH2 => ?_
 clear hK
 simp only [Act.put, pqA, pqB, pqC]
 refine TkG (i := 15) (oi := ⟨some 91, Op.indexAddr 22 (Operand.tmp 79) (Operand.tmp 80), 0, _, _, none⟩) (v := .pointer (some ⟨g7, i * 3, none⟩)) rfl hH2 ?_
 refine TkG (i := 16) (oi := ⟨some 92, Op.fieldAddr 49 (Operand.tmp 91) 1, 0, _, _, none⟩) (v := .pointer (some ⟨g7, i * 3 + 1, none⟩)) rfl hH2 ?_
 refine wpAnyH_ready (rs := [17]) (by kernel_rfl) (by simp) ?_
 refine AllReadyH.cons (o := ⟨none, Op.store 40 (Operand.tmp 92) (Operand.tmp 90), 0, _, _, none⟩) rfl (fun K hK => ?_) AllReadyH.nil
 rw [if_pos (by rfl)]
 have f_o : w9.frozen? ⟨g7, i * 3 + 1, none⟩ = false := ownF_frozen HG9.out _
 have cl := C9.out
 refine wp_cellS (w9.setCell ⟨g7, i * 3 + 1, none⟩ (.slice a9 n9 k9)) (by go_simp) ?_
 clear f_o cl
 refine hK _ _ ((Grown.setCell w9 g7 (i * 3 + 1) _ (S := fun k => k = g7) fun _ => rfl).cell (HB9.out.c 0 rfl) (fun e => hgp.out e.symm)) fun hH3 => ?_
 clear hK
 simp only [Act.put, pqA, pqB, pqC]
 refine wpAnyH_done (by kernel_rfl) ?_ _
 refine hK14 _ _ ?_
 refine wp_seq_k fun K15 hK15 => ?_
 obtain ⟨w10, hw10⟩ : ∃ wx, Keep (wx = w9.setCell ⟨g7, i * 3 + 1, none⟩ (.slice a9 n9 k9)) := ⟨_, ⟨rfl⟩⟩
 rw [← hw10.out]
 have HD10 : Keep (DskAt w10 p (.slice (some ⟨g7, 0, none⟩) cs.length vc) (cs.set i (⟨xn, .slice a9 n9 k9, xs⟩ : FC)) { D with fs := D.fs.set i (f.app l) }) := ⟨by rw [hw10.out]; exact dsk_app HD8.out HX.out HFi.out HA9.out⟩
 have G10 : Keep (Grown wz w10 fun k => k = p ∨ k = g7 ∨ (Value.slice xa xm xc).ownBlock = some k) := ⟨by rw [hw10.out]; exact ((Grown.below B8.out).trans (GA9.out.mono fun k _ h => .inr (.inr h))).next (Grown.setCell w9 g7 _ _ (S := fun k => k = g7) fun _ => rfl) fun k hk e => .inr (.inl e)⟩
 have N10 : Keep (∀ k, DskS p (.slice (some ⟨g7, 0, none⟩) cs.length vc) (cs.set i (⟨xn, .slice a9 n9 k9, xs⟩ : FC)) k → DskS p (.slice (some ⟨g7, 0, none⟩) cs.length vc) cs k ∨ wz.heap.size ≤ k) := ⟨fun k hk => (dskS_app HX.out HA9.out hk).imp id fun h => Nat.le_trans B8.out.size h⟩
 clear HD8 HA9 GA9 hw10 HR8 HR1 hS0 HB9 HG9 C9
 have c2 := HD10.out.blk.c 2 (by rfl : (stA (.slice (some ⟨g7, 0, none⟩) cs.length vc) { D with fs := D.fs.set i (f.app l) })[2]? = some (.int .i64 D.used))
 have f_o := HD10.out.blk.frozen 2
 have hwu : IntKind.i64.wrap (D.used + (l.length : Int)) = D.used + (l.length : Int) := by rw [IntKind.wrap_i64]; have := HU.out; omega
 refine rgn ?_
 refine VlS (.pointer (some ⟨p, 0, none⟩)) ?_
 refine VlS (.pointer (some ⟨p, 0, none⟩)) ?_
 refine VlS (.pointer (some ⟨p, 2, none⟩)) ?_
 refine VlS (.int .i64 D.used) ?_
 refine VlS (.slice ba l.length bc) ?_
 refine VlS (.int .i64 (l.length : Int)) ?_
 refine VlS (.int .i64 (D.used + (l.length : Int))) ?_
 refine VlS (.pointer (some ⟨p, 0, none⟩)) ?_
 refine VlS (.pointer (some ⟨p, 2, none⟩)) ?_
 refine WL.cell (by kernel_rfl) (w10.setCell ⟨p, 2, none⟩ (.int .i64 (D.used + (l.length : Int)))) (by go_simp) ?_
 clear f_o c2
 have HD11 : Keep (DskAt (w10.setCell ⟨p, 2, none⟩ (.int .i64 (D.used + (l.length : Int)))) p (.slice (some ⟨g7, 0, none⟩) cs.length vc) (cs.set i (⟨xn, .slice a9 n9 k9, xs⟩ : FC)) { D with fs := D.fs.set i (f.app l), used := D.used + (l.length : Int) }) := ⟨HD10.out.put rfl rfl⟩
 have G11 : Keep (Grown wz (w10.setCell ⟨p, 2, none⟩ (.int .i64 (D.used + (l.length : Int)))) fun k => k = p ∨ k = g7 ∨ (Value.slice xa xm xc).ownBlock = some k) := ⟨G10.out.trans (Grown.setCell w10 p 2 _ fun _ => .inl rfl)⟩
 clear HD10 G10
 generalize w10.setCell ⟨p, 2, none⟩ (.int .i64 (D.used + (l.length : Int))) = w11 at *
 simp only [Act.put]
 refine WL.nil (hK15 _ _ ?_)
 refine wp_seq_k fun K16 hK16 => ?_
 refine wp_seq_k fun K17 hK17 => rgn ?_
 refine VlS (.pointer (some ⟨p, 0, none⟩)) ?_
 have hac := act_any p _ _ _ w11 HD11.out HA.out ⟨HFu.out.1, HFu.out.2⟩
 refine WL.callF (by kernel_rfl) 50 _ _ rfl Tryz.in50 #[ptr p] (by simp [Act.eval]) ?_
 refine (hac).mono ?_
 rintro e wq ⟨rfl, h1, h2⟩
 refine ⟨_, rfl, ?_⟩
 have HD12 := Keep.mk h1
 have G12 : Keep (Grown wz wq fun k => k = p ∨ k = g7 ∨ (Value.slice xa xm xc).ownBlock = some k) := ⟨G11.out.trans (h2.mono fun k _ e => .inl e)⟩
 clear h1 h2 hac
 simp only [Act.put, pqA, pqB, pqC]
 rcases Decidable.em (D.fuse = 0) with hfu | hfu
 ·rw [show decide (D.fuse = 0) = true from decide_eq_true hfu]
  refine WL.nil (hK17 _ _ ?_)
  refine wp_cond_true rfl ?_
  refine wp_seq_k fun K18 hK18 => rgn ?_
  refine VlS (.int .i64 7) ?_
  refine WL.nil (hK18 _ _ ?_)
  refine wp_ret ?_
  go_ret
  exact ⟨by unfold pw; rw [if_pos hfu]; rfl, _, _, HD12.out, G12.out.mono fun k _ h => h.imp id fun h => h.imp (fun e => by rw [e]; rfl) fun h => ⟨i, _, HX.out, h⟩, N10.out⟩
 ·rw [show decide (D.fuse = 0) = false from decide_eq_false hfu]
  refine WL.nil (hK17 _ _ ?_)
  refine wp_cond_false rfl ?_
  refine wp_skip ?_
  refine hK16 _ _ ?_
  refine wp_seq_k fun K19 hK19 => rgn ?_
  refine VlS (.int .i64 0) ?_
  refine WL.nil (hK19 _ _ ?_)
  refine wp_ret ?_
  go_ret
  exact ⟨by unfold pw; rw [if_neg hfu]; rfl, _, _, HD12.out, G12.out.mono fun k _ h => h.imp id fun h => h.imp (fun e => by rw [e]; rfl) fun h => ⟨i, _, HX.out, h⟩, N10.out⟩
end Go.Proofs.YteijjfeainamdaaGreatDoor
