import Derived.Test.YtdeiicldfgkidaaGreatD11
import Derived.Test.YtdeiicldfgkidaaGreatD06
import Derived.Deep.RegionHeld3
namespace Go.Proofs.YtdeiicldfgkidaaGreat
open Go.RowKit
set_option linter.unusedSimpArgs false
set_option linter.unusedVariables false

def HsPost (p : Nat) (s : ByteArray) (R : Int × Nat × List Hs) (w : World) (e : Ending) (w' : World) : Prop :=
 (R.1 = 0 ∧ ∃ v, e = .returned v ∧ OwnH w' v R.2.2 ∧ (∀ k, v.ownBlock = some k → w.heap.size ≤ k) ∧ InAt w' p s R.2.1 none ∧ Grown w w' fun k => k = p) ∨ Gives p (R.1, R.2.1) w e w'
theorem bytesA_list (c : Nat → Int) : (bytesA 32 c).toList.toArray = bytesA 32 c := Array.toArray_toList
theorem Tryz.sizeHL (h : Hs) : (Tryz.prog.info? 41).map (·.size) = some (Sh.encH h).length := by rw [Sh.encH_len]; exact Tryz.size41
theorem enc_load (h : Hs) : (Sh.encH h).toArray = bytesA 32 h.f := Sh.encH_arr h
theorem OwnH.elem {w : World} {v : Value} {l : List Hs} (h : OwnH w v l) (i : Nat) (hi : i < l.length) : ∃ g cap, v = .slice (some ⟨g, 0, none⟩) l.length cap ∧ ∀ wx, (∀ cs, Blk w g 41 cs → Blk wx g 41 cs) → wx.rangeAt g (i * 32) (Sh.encH (l.getD i default)) := by
 rcases h.form with ⟨_, h0⟩ | ⟨g, cap, cur, rfl, h1, h2, h3⟩
 ·rw [h0] at hi; exact absurd hi (Nat.not_lt_zero _)
 ·refine ⟨g, cap, rfl, fun wx hx => ?_⟩
  have hr : wx.rangeAt g 0 (Sh.flatH l) := fun j u hu => by
   rw [Nat.zero_add, (hx _ h1).cell]
   rw [← h3, List.getElem?_take] at hu
   split at hu
   ·rwa [Array.getElem?_toList] at hu
   ·cases hu
  have := Sh.rangeAt_elem hr i hi
  rw [Nat.zero_add] at this
  rwa [show l.getD i default = l[i] by simp [List.getD_eq_getElem?_getD, hi]]
theorem Tryz.in87 (w : World) (vs : Array Value) : (callFunc 87 vs).run Tryz.prog w = .ok (.enter 87 vs) w := by kernel_rfl
set_option maxRecDepth 8000 in
set_option maxHeartbeats 4000000 in
theorem readParents_any (p : Nat) (s : ByteArray) (a n : Nat) (w : World) (hI : InAt w p s a none) (hb : s.size ≤ 140737488355328) (hn : n ≤ 64) :
  Calls Tryz.prog 51 #[ptr p, .int .i64 (n : Int)] w (HsPost p s (getH (lst s) n [] a) w) := by
 have HI := Keep.mk hI
 have Hb := Keep.mk hb
 have Hn := Keep.mk hn
 obtain ⟨R, hR⟩ : ∃ R, R = getH (lst s) n [] a := ⟨_, rfl⟩
 rw [← hR]
 have HR := Keep.mk hR
 clear hI hb hn hR
 go_enter Tryz.func51, Tryz.ntmps51
 refine wp_seq_k fun K1 hK1 => rgn ?_
 refine VlS (.slice none 0 0) ?_
 refine WL.nil (hK1 _ _ ?_)
 refine wp_seq_k fun K2 hK2 => rgn ?_
 refine WL.bs (by kernel_rfl) 25 0 _ rfl #[] (by simp) _ _ (bsHE w) ?_
 have HO3 := Keep.mk (ownH_empty w)
 have B3 : Keep (Below w.heap.size w (w.alloc (.cells #[] 41))) := ⟨below_new w _⟩
 generalize w.alloc (.cells #[] 41) = w3 at *
 have HOn3 : Keep (∀ k, (Value.slice (some ⟨w.heap.size, 0, none⟩) 0 0).ownBlock = some k → w.heap.size ≤ k) := ⟨fun k hk => by simp [Value.ownBlock] at hk; omega⟩
 have HI3 : Keep (InAt w3 p s a none) := ⟨HI.out.blk.below B3.out HI.out.blk.lt, HI.out.le⟩
 have HG3 : Keep (Grown w w3 fun k => k = p) := ⟨Grown.below B3.out⟩
 simp only [Act.put, pqA, pqB, pqC]
 refine VlS (.slice (some ⟨w.heap.size, 0, none⟩) 0 0) ?_
 refine WL.nil (hK2 _ _ ?_)
 refine wp_seq_k fun K3 hK3 => ?_
 refine wp_seq_k fun K4 hK4 => rgn ?_
 refine VlS (.int .i64 (n : Int)) ?_
 refine VlS (.int .i64 0) ?_
 refine WL.nil (hK4 _ _ ?_)
 refine wp_block ?_
 refine wp_loop (fun ac wr => ∃ (t : Nat) (u5 u6 u7 u8 u12 u13 u14 u15 u16 u17 u18 u19 u20 u21 u22 u23 u24 u25 u26 u27 u28 u29 u30 u31 u32 u33 u34 u35 u36 u37 u38 u39 : Value), ac = { tmps := #[.pointer (some ⟨p, 0, none⟩), .int .i64 (n : Int), undef, undef, .slice none 0 0, u5, u6, u7, u8, .slice (some ⟨w.heap.size, 0, none⟩) 0 0, .int .i64 (n : Int), .int .i64 (t : Int), u12, u13, u14, u15, u16, u17, u18, u19, u20, u21, u22, u23, u24, u25, u26, u27, u28, u29, u30, u31, u32, u33, u34, u35, u36, u37, u38, u39, undef], defers := [] } ∧ t ≤ n ∧ ∃ l at_, getH (lst s) n [] a = getH (lst s) (n - t) l at_ ∧ InAt wr p s at_ none ∧ OwnH wr u5 l ∧ (∀ k, u5.ownBlock = some k → w.heap.size ≤ k) ∧ (Grown w wr fun k => k = p) ∧ l.length = t) (fun a _ => n - (intOf (a.tmps.getD 11 undef)).toNat) ⟨0, .slice (some ⟨w.heap.size, 0, none⟩) 0 0, undef, undef, undef, undef, undef, undef, undef, undef, undef, undef, undef, undef, undef, undef, undef, undef, undef, undef, undef, undef, undef, undef, undef, undef, undef, undef, undef, undef, undef, undef, undef, rfl, by omega, [], a, rfl, HI3.out, HO3.out, HOn3.out, HG3.out, rfl⟩ ?_
 rintro ac wr ⟨t, u5, u6, u7, u8, u12, u13, u14, u15, u16, u17, u18, u19, u20, u21, u22, u23, u24, u25, u26, u27, u28, u29, u30, u31, u32, u33, u34, u35, u36, u37, u38, u39, rfl, ht, l, at_, hC, hI, hO, hOn, hG, hLn⟩
 by_cases htl : t < n
 ·have htl' : (t : Int) < (n : Int) := by omega
  obtain ⟨k1, hk1⟩ : ∃ k1, n - t = k1 + 1 := ⟨n - t - 1, by omega⟩
  rw [hk1, getH] at hC
  have hk2 : k1 = n - (t + 1) := by omega
  rw [hk2] at hC
  have hwr1 : IntKind.i64.wrap ((t : Int) + 1) = (t : Int) + 1 := by rw [IntKind.wrap_i64]; have := Hn.out; omega
  obtain ⟨oa, oc, rfl⟩ := hO.sl
  obtain ⟨D, hD⟩ : ∃ D, D = (lst s).drop at_ := ⟨_, rfl⟩
  obtain ⟨W, hW⟩ : ∃ W, W = nextW D 32 := ⟨_, rfl⟩
  obtain ⟨N, hN⟩ : ∃ N, N = nextN D 32 := ⟨_, rfl⟩
  obtain ⟨hh, hhh⟩ : ∃ hh, hh = hs (D.take 32) := ⟨_, rfl⟩
  have HC0 := Keep.mk (ihash_good p s at_ wr hI Hb.out D hD W hW N hN)
  rw [← hD, ← hW, ← hN, ← hhh] at hC
  have heq : Keep (W = 0 → bytesA 32 (hrd D W) = bytesA 32 hh.f) := ⟨fun h => by rw [h, hhh]; exact hrd_hs D (by rw [← hW]; exact h) (by rw [hD]; exact (lst_byts s).drop at_)⟩
  have HN32 : Keep (W = 0 → N = 32) := ⟨fun h => by rw [hN, (nextN_0 D 32 (by rw [← hW]; exact h)).1]; rfl⟩
  have JC := Keep.mk hC
  have JI := Keep.mk hI
  have JO := Keep.mk hO
  have JOn := Keep.mk hOn
  have JG := Keep.mk hG
  have JLn := Keep.mk hLn
  clear hC hI hO hOn hG hLn hk1 hk2 hD hW hN hhh
  refine wp_seq_k fun K5 hK5 => rgn ?_
  refine VlS (.bool true) ?_
  refine WL.nil (hK5 _ _ ?_)
  refine wp_seq_k fun K6 hK6 => ?_
  refine wp_cond_true rfl ?_
  refine wp_skip ?_
  refine hK6 _ _ ?_
  refine wp_seq_k fun K7 hK7 => ?_
  refine wp_block ?_
  refine wp_seq_k fun K8 hK8 => rgn ?_
  refine VlS (.int .i64 (t : Int)) ?_
  refine VlS (.int .i64 (t : Int)) ?_
  refine WL.nil (hK8 _ _ ?_)
  refine wp_seq_k fun K9 hK9 => rgn ?_
  refine VlS (.pointer (some ⟨p, 0, none⟩)) ?_
  refine WL.callF (by kernel_rfl) 45 _ _ rfl Tryz.in45 #[ptr p] (by simp [Act.eval]) ?_
  refine (iat_any p s at_ none wr JI.out).mono ?_
  rintro e w0 ⟨rfl, hw0⟩
  rw [hw0]
  clear hw0 w0
  refine ⟨_, rfl, ?_⟩
  simp only [Act.put, pqA, pqB, pqC]
  refine VlS (.int .i64 (at_ : Int)) ?_
  refine WL.nil (hK9 _ _ ?_)
  refine wp_seq_k fun K10 hK10 => rgn ?_
  refine VlS (.pointer (some ⟨p, 0, none⟩)) ?_
  refine WL.callF (by kernel_rfl) 86 _ _ rfl Tryz.in86 #[ptr p] (by simp [Act.eval]) ?_
  refine (HC0.out).mono ?_
  rintro e w1 ⟨bad, er, rfl, h1, h2, h3⟩
  refine ⟨_, rfl, ?_⟩
  have H1 := Keep.mk h1
  have H2 := Keep.mk (JG.out.trans h2)
  have HO1 := Keep.mk (JO.out.grown h2 (fun k hk e => JO.out.ne JI.out.blk (by decide) (e ▸ hk)))
  have H3 := Keep.mk h3
  clear h1 h2 h3
  simp only [Act.put, pqA, pqB, pqC]
  by_cases hE : W = 0
  ·rcases H3.out with ⟨e1, rfl, rfl⟩ | ⟨e1, _⟩
   rotate_left
   ·exact absurd hE e1
   rw [heq.out hE]
   refine VlS (.agg (bytesA 32 hh.f)) ?_
   refine VlS (.nilIface) ?_
   refine WL.callF (by kernel_rfl) 85 _ _ rfl Tryz.in85 #[.agg (bytesA 32 hh.f), .nilIface] (by simp [Act.eval]) ?_
   refine (mustH_ok hh.f w1).mono ?_
   rintro e w2 ⟨rfl, hb2⟩
   refine ⟨_, rfl, ?_⟩
   have B2 := Keep.mk hb2
   clear hb2
   simp only [Act.put, pqA, pqB, pqC]
   refine WL.new (by kernel_rfl) 41 rfl _ Tryz.new41 ?_
   simp only [Act.put, pqA, pqB, pqC]
   refine WL.storeR (by kernel_rfl) 41 (.tmp 8) (.tmp 20) rfl w2.heap.size (bytesA 32 hh.f) rfl rfl 41 (bytesA 32 fun _ => 0) (Blk.new w2 41 _) (Tryz.size41B _) (bytesA_sizes _ _ _) (bytesA_one _ _) ?_
   have HX3 := Keep.mk ((Blk.new w2 41 (bytesA 32 fun _ => 0)).setRow (bytesA 32 hh.f))
   have B3 : Keep (Below w2.heap.size w2 ((w2.alloc (.cells (bytesA 32 fun _ => 0) 41)).setRow w2.heap.size (bytesA 32 hh.f))) := ⟨below_setRow (below_new w2 _) (Nat.le_refl _) _⟩
   generalize (w2.alloc (.cells (bytesA 32 fun _ => 0) 41)).setRow w2.heap.size (bytesA 32 hh.f) = w3 at *
   have B13 : Keep (Below w1.heap.size w1 w3) := ⟨B2.out.trans (B3.out.mono B2.out.size)⟩
   have HI3 : Keep (InAt w3 p s (at_ + N) none) := ⟨H1.out.blk.below B13.out H1.out.blk.lt, H1.out.le⟩
   have HO3 := Keep.mk (HO1.out.below B13.out)
   have HG3 : Keep (Grown w w3 fun k => k = p) := ⟨H2.out.trans (Grown.below B13.out)⟩
   have HI3b := Keep.mk HI3.out.blk
   simp only [Act.put]
   refine WL.nil (hK10 _ _ ?_)
   refine wp_seq_k fun K11 hK11 => ?_
   refine wp_seq_k fun K12 hK12 => ?_
   have hD0 : Below w3.heap.size w3 w3.drew := (Below.refl _ _).drew
   by_cases ht0 : 0 < t
   ·have ht0' : (0 : Int) < (t : Int) := by omega
    have hlt : t - 1 < l.length := by have := JLn.out; omega
    obtain ⟨gL, cL, hsl, hel⟩ := HO3.out.elem (t - 1) hlt
    injection hsl with hs1 hs2 hs3
    subst hs1 hs3
    obtain ⟨hp, hhp⟩ : ∃ hp, hp = l.getD (t - 1) default := ⟨_, rfl⟩
    rw [← hhp] at hel
    have Hcc : Keep (l.getD (l.length - 1) default = hp) := ⟨by rw [JLn.out, hhp]⟩
    have hsub : IntKind.i64.wrap ((t : Int) - 1) = ((t - 1 : Nat) : Int) := by rw [IntKind.wrap_i64]; have := Hn.out; omega
    have hll := JLn.out
    have HS0 : Keep (∀ wx, Below w3.heap.size w3 wx → wx.rangeAt gL ((t - 1) * 32) (Sh.encH hp) ∧ wx.rangeAt w2.heap.size 0 (bytesA 32 hh.f).toList) := ⟨fun wx hb => ⟨hel wx (fun cs h => h.below hb h.lt), blk_range (HX3.out.below hb HX3.out.lt)⟩⟩
    clear hel hhp
    by_cases hcf : 0 ≤ Sh.cf hp hh
    ·skip
     have JC2 := Keep.mk (JC.out.trans ((if_neg (by simp [hE])).trans (if_pos ⟨by have := JLn.out; omega, by rw [Hcc.out]; exact hcf⟩)))
     refine wp_region_held_drew (S := fun wx => wx.rangeAt gL ((t - 1) * 32) (Sh.encH hp) ∧ wx.rangeAt w2.heap.size 0 (bytesA 32 hh.f).toList) (by kernel_rfl) (HS0.out _ hD0) (fun hHeld => ?_)
     refine tkS (i := 0) (oi := ⟨some 21, Op.move (Operand.tmp 6), 3, _, _, none⟩) (v := .int .i64 (t : Int)) rfl (Or.inl ⟨by rfl, fun w hS => by go_simp⟩) hHeld ?_
     refine tkS (i := 1) (oi := ⟨some 22, Op.binOp BinOp.gtr 3 (Operand.tmp 21) (Operand.const (Value.int IntKind.i64 0)) 3, 4, _, _, none⟩) (v := .bool true) rfl (Or.inl ⟨by rfl, fun w hS => by go_simp⟩) hHeld ?_
     refine tkS (i := 2) (oi := ⟨some 23, Op.move (Operand.tmp 22), 4, _, _, none⟩) (v := .bool true) rfl (Or.inl ⟨by rfl, fun w hS => by go_simp⟩) hHeld ?_
     refine tkS (i := 3) (oi := ⟨some 24, Op.move (Operand.tmp 5), 25, _, _, some (2, true)⟩) (v := .slice (some ⟨gL, 0, none⟩) l.length oc) rfl (Or.inl ⟨by rfl, fun w hS => by go_simp⟩) hHeld ?_
     refine tkS (i := 4) (oi := ⟨some 25, Op.move (Operand.tmp 6), 3, _, _, some (2, true)⟩) (v := .int .i64 (t : Int)) rfl (Or.inl ⟨by rfl, fun w hS => by go_simp⟩) hHeld ?_
     refine tkS (i := 5) (oi := ⟨some 26, Op.binOp BinOp.sub 3 (Operand.tmp 25) (Operand.const (Value.int IntKind.i64 1)) 3, 3, _, _, some (2, true)⟩) (v := .int .i64 ((t - 1 : Nat) : Int)) rfl (Or.inl ⟨by rfl, fun w hS => by go_simp⟩) hHeld ?_
     refine tkS (i := 6) (oi := ⟨some 27, Op.indexAddr 25 (Operand.tmp 24) (Operand.tmp 26), 0, _, _, some (2, true)⟩) (v := .pointer (some ⟨gL, (t - 1) * 32, none⟩)) rfl (Or.inl ⟨by rfl, fun w hS => by go_simp; intro h; omega⟩) hHeld ?_
     refine tkS (i := 7) (oi := ⟨some 28, Op.load 41 (Operand.tmp 27), 41, _, _, some (2, true)⟩) (v := .agg (Sh.encH hp).toArray) rfl (yieldsIf_load_mid (by rfl) 41 (Operand.tmp 27) rfl gL ((t - 1) * 32) rfl (Sh.encH hp) _ (fun w hS => hS.1) Tryz.underlying41 rfl (Tryz.sizeHL hp)) hHeld ?_
     refine tkS (i := 8) (oi := ⟨some 29, Op.load 41 (Operand.tmp 8), 41, _, _, some (2, true)⟩) (v := .agg (bytesA 32 hh.f).toList.toArray) rfl (yieldsIf_load_mid (by rfl) 41 (Operand.tmp 8) rfl w2.heap.size 0 rfl (bytesA 32 hh.f).toList _ (fun w hS => hS.2) Tryz.underlying41 rfl (by rw [Array.length_toList]; exact Tryz.size41B _)) hHeld ?_
     refine wpAnyH_ready (rs := [9]) (by kernel_rfl) (by simp) ?_
     refine AllReadyH.cons (o := ⟨some 30, Op.call { callee := Callee.value (Operand.func 87), args := #[Operand.tmp 28, Operand.tmp 29], argTypes := #[41, 41] }, 3, _, _, some (2, true)⟩) rfl (fun K hK => ?_) AllReadyH.nil
     rw [if_pos (by rfl)]
     refine wp_callF 87 _ _ rfl Tryz.in87 #[.agg (bytesA 32 hp.f), .agg (bytesA 32 hh.f)] (by simp [Act.eval, enc_load]) (fun vz wz => vz = .int .i64 (Sh.cf hp hh) ∧ Below w3.heap.size w3 wz) ?_ ?_
     ·refine (cmp_any hp hh w3.drew).mono ?_
      rintro e wz ⟨rfl, h⟩
      exact ⟨_, rfl, rfl, hD0.trans (h.mono hD0.size)⟩
     rintro vz w7 ⟨rfl, h7⟩
     have HB7 := Keep.mk h7
     clear h7
     refine hK.out _ _ (HS0.out _ HB7.out) fun hHeld2 => ?_
     clear hK
     simp only [Act.put, pqA, pqB, pqC]
     refine tkS (i := 10) (oi := ⟨some 31, Op.binOp BinOp.geq 3 (Operand.tmp 30) (Operand.const (Value.int IntKind.i64 0)) 3, 4, _, _, some (2, true)⟩) (v := .bool true) rfl (Or.inl ⟨by rfl, fun w hS => by go_simp⟩) hHeld2 ?_
     refine tkS (i := 11) (oi := ⟨some 32, Op.pick (Operand.tmp 23) (Operand.tmp 31) (Operand.const (Value.bool false)), 4, _, _, none⟩) (v := .bool true) rfl (Or.inl ⟨by rfl, fun w hS => by go_simp⟩) hHeld2 ?_
     refine wpAnyH_done (by kernel_rfl) ?_ _
     refine hK12 _ _ ?_
     refine wp_cond_true rfl ?_
     have HG7 : Keep (Grown w w7 fun k => k = p) := ⟨HG3.out.trans (Grown.below HB7.out)⟩
     refine rgn ?_
     refine VlS (.int .i64 (at_ : Int)) ?_
     refine WL.callP (by kernel_rfl) 50 _ _ rfl Tryz.in50 #[.int .i64 52, .int .i64 (at_ : Int)] (by simp [Act.eval]) ?_
     refine (at_any 52 at_ w7).mono ?_
     rintro e wz ⟨rfl, hbz, hwz⟩
     have HBd : Keep (BadAt wz w7.heap.size 52 at_) := ⟨hbz⟩
     have HGd : Keep (Grown w wz fun k => k = p) := ⟨HG7.out.trans (Grown.below hwz)⟩
     clear hbz hwz
     refine .inr ⟨_, rfl, ?_⟩
     try simp only [Exit.inBlock, Exit.then]
     refine ⟨rfl, ?_⟩
     exact .inr ⟨by rw [HR.out, JC2.out]; exact (by decide : (52 : Int) ≠ 0), w7.heap.size, HG7.out.size, rfl, by rw [HR.out, JC2.out]; exact HBd.out, HGd.out⟩
    ·skip
     have JC2 := Keep.mk (JC.out.trans ((if_neg (by simp [hE])).trans (if_neg (fun h => hcf (by rw [← Hcc.out]; exact h.2)))))
     refine wp_region_held_drew (S := fun wx => wx.rangeAt gL ((t - 1) * 32) (Sh.encH hp) ∧ wx.rangeAt w2.heap.size 0 (bytesA 32 hh.f).toList) (by kernel_rfl) (HS0.out _ hD0) (fun hHeld => ?_)
     refine tkS (i := 0) (oi := ⟨some 21, Op.move (Operand.tmp 6), 3, _, _, none⟩) (v := .int .i64 (t : Int)) rfl (Or.inl ⟨by rfl, fun w hS => by go_simp⟩) hHeld ?_
     refine tkS (i := 1) (oi := ⟨some 22, Op.binOp BinOp.gtr 3 (Operand.tmp 21) (Operand.const (Value.int IntKind.i64 0)) 3, 4, _, _, none⟩) (v := .bool true) rfl (Or.inl ⟨by rfl, fun w hS => by go_simp⟩) hHeld ?_
     refine tkS (i := 2) (oi := ⟨some 23, Op.move (Operand.tmp 22), 4, _, _, none⟩) (v := .bool true) rfl (Or.inl ⟨by rfl, fun w hS => by go_simp⟩) hHeld ?_
     refine tkS (i := 3) (oi := ⟨some 24, Op.move (Operand.tmp 5), 25, _, _, some (2, true)⟩) (v := .slice (some ⟨gL, 0, none⟩) l.length oc) rfl (Or.inl ⟨by rfl, fun w hS => by go_simp⟩) hHeld ?_
     refine tkS (i := 4) (oi := ⟨some 25, Op.move (Operand.tmp 6), 3, _, _, some (2, true)⟩) (v := .int .i64 (t : Int)) rfl (Or.inl ⟨by rfl, fun w hS => by go_simp⟩) hHeld ?_
     refine tkS (i := 5) (oi := ⟨some 26, Op.binOp BinOp.sub 3 (Operand.tmp 25) (Operand.const (Value.int IntKind.i64 1)) 3, 3, _, _, some (2, true)⟩) (v := .int .i64 ((t - 1 : Nat) : Int)) rfl (Or.inl ⟨by rfl, fun w hS => by go_simp⟩) hHeld ?_
     refine tkS (i := 6) (oi := ⟨some 27, Op.indexAddr 25 (Operand.tmp 24) (Operand.tmp 26), 0, _, _, some (2, true)⟩) (v := .pointer (some ⟨gL, (t - 1) * 32, none⟩)) rfl (Or.inl ⟨by rfl, fun w hS => by go_simp; intro h; omega⟩) hHeld ?_
     refine tkS (i := 7) (oi := ⟨some 28, Op.load 41 (Operand.tmp 27), 41, _, _, some (2, true)⟩) (v := .agg (Sh.encH hp).toArray) rfl (yieldsIf_load_mid (by rfl) 41 (Operand.tmp 27) rfl gL ((t - 1) * 32) rfl (Sh.encH hp) _ (fun w hS => hS.1) Tryz.underlying41 rfl (Tryz.sizeHL hp)) hHeld ?_
     refine tkS (i := 8) (oi := ⟨some 29, Op.load 41 (Operand.tmp 8), 41, _, _, some (2, true)⟩) (v := .agg (bytesA 32 hh.f).toList.toArray) rfl (yieldsIf_load_mid (by rfl) 41 (Operand.tmp 8) rfl w2.heap.size 0 rfl (bytesA 32 hh.f).toList _ (fun w hS => hS.2) Tryz.underlying41 rfl (by rw [Array.length_toList]; exact Tryz.size41B _)) hHeld ?_
     refine wpAnyH_ready (rs := [9]) (by kernel_rfl) (by simp) ?_
     refine AllReadyH.cons (o := ⟨some 30, Op.call { callee := Callee.value (Operand.func 87), args := #[Operand.tmp 28, Operand.tmp 29], argTypes := #[41, 41] }, 3, _, _, some (2, true)⟩) rfl (fun K hK => ?_) AllReadyH.nil
     rw [if_pos (by rfl)]
     refine wp_callF 87 _ _ rfl Tryz.in87 #[.agg (bytesA 32 hp.f), .agg (bytesA 32 hh.f)] (by simp [Act.eval, enc_load]) (fun vz wz => vz = .int .i64 (Sh.cf hp hh) ∧ Below w3.heap.size w3 wz) ?_ ?_
     ·refine (cmp_any hp hh w3.drew).mono ?_
      rintro e wz ⟨rfl, h⟩
      exact ⟨_, rfl, rfl, hD0.trans (h.mono hD0.size)⟩
     rintro vz w7 ⟨rfl, h7⟩
     have HB7 := Keep.mk h7
     clear h7
     refine hK.out _ _ (HS0.out _ HB7.out) fun hHeld2 => ?_
     clear hK
     simp only [Act.put, pqA, pqB, pqC]
     refine tkS (i := 10) (oi := ⟨some 31, Op.binOp BinOp.geq 3 (Operand.tmp 30) (Operand.const (Value.int IntKind.i64 0)) 3, 4, _, _, some (2, true)⟩) (v := .bool false) rfl (Or.inl ⟨by rfl, fun w hS => by go_simp⟩) hHeld2 ?_
     refine tkS (i := 11) (oi := ⟨some 32, Op.pick (Operand.tmp 23) (Operand.tmp 31) (Operand.const (Value.bool false)), 4, _, _, none⟩) (v := .bool false) rfl (Or.inl ⟨by rfl, fun w hS => by go_simp⟩) hHeld2 ?_
     refine wpAnyH_done (by kernel_rfl) ?_ _
     refine hK12 _ _ ?_
     refine wp_cond_false rfl ?_
     refine wp_skip ?_
     refine hK11 _ _ ?_
     refine rgn ?_
     refine VlS (.slice (some ⟨gL, 0, none⟩) l.length oc) ?_
     refine WL.row (by kernel_rfl) 41 (.tmp 8) rfl w2.heap.size rfl 41 (bytesA 32 hh.f) _ (HX3.out.below HB7.out HX3.out.lt) Tryz.underlying41 rfl (Tryz.size41B _) ?_
     simp only [Act.put, pqA, pqB, pqC]
     refine WL.bs (by kernel_rfl) 25 1 _ rfl #[(0, .agg (bytesA 32 hh.f))] (by simp [Act.eval]) _ _ (bsH hh w7) ?_
     have HB8 := Keep.mk (Blk.new w7 41 (bytesA 32 hh.f))
     have B8 : Keep (Below w3.heap.size w3 (w7.alloc (.cells (bytesA 32 hh.f) 41))) := ⟨HB7.out.trans ((below_new w7 _).mono HB7.out.size)⟩
     generalize w7.alloc (.cells (bytesA 32 hh.f) 41) = w8 at *
     simp only [Act.put, pqA, pqB, pqC]
     refine WL.appH (by kernel_rfl) (.tmp 35) (.tmp 37) rfl (.slice (some ⟨gL, 0, none⟩) l.length oc) l w7.heap.size hh rfl rfl (HO3.out.below B8.out) HB8.out (by have := JLn.out; have := Hn.out; omega) ?_
     intro v4 w4 h1 h2 h3
     have HO4 := Keep.mk h1
     have Hg4 : Keep (Grown w w4 fun k => k = p) := ⟨(HG3.out.trans (Grown.below B8.out)).next h2 (fun k hk e => absurd (JOn.out k e) (by omega))⟩
     have HI4 : Keep (InAt w4 p s (at_ + N) none) := ⟨h2.blk (HI3.out.blk.below B8.out HI3.out.blk.lt) (fun e => (HO3.out.below B8.out).ne (HI3.out.blk.below B8.out HI3.out.blk.lt) (by decide) e), HI3.out.le⟩
     have HOn4 : Keep (∀ k, v4.ownBlock = some k → w.heap.size ≤ k) := ⟨fun k hk => by
      rcases h3 with e | ⟨j, e, hj⟩
      ·rw [e] at hk; exact JOn.out k hk
      ·rw [e] at hk; injection hk with hk; have := HG3.out.size; have := B8.out.size; omega⟩
     clear h1 h2 h3
     simp only [Act.put, pqA, pqB, pqC]
     refine VlS (v4) ?_
     refine WL.nil (hK7 _ _ ?_)
     refine rgn ?_
     refine VlS (.int .i64 ((t : Int) + 1)) ?_
     refine VlS (.int .i64 ((t : Int) + 1)) ?_
     refine WL.nil ?_
     rw [HN32.out hE] at HI4
     refine ⟨⟨t + 1, v4, .int .i64 (t : Int), .int .i64 (at_ : Int), .pointer (some ⟨w2.heap.size, 0, none⟩), .bool true, .int .i64 (t : Int), .pointer (some ⟨p, 0, none⟩), .int .i64 (at_ : Int), .pointer (some ⟨p, 0, none⟩), .tuple #[.agg (bytesA 32 hh.f), .nilIface], .agg (bytesA 32 hh.f), .nilIface, .agg (bytesA 32 hh.f), .int .i64 (t : Int), .bool true, .bool true, .slice (some ⟨gL, 0, none⟩) l.length oc, .int .i64 (t : Int), .int .i64 ((t - 1 : Nat) : Int), .pointer (some ⟨gL, (t - 1) * 32, none⟩), .agg (Sh.encH hp).toArray, .agg (bytesA 32 hh.f).toList.toArray, .int .i64 (Sh.cf hp hh), .bool false, .bool false, u33, u34, .slice (some ⟨gL, 0, none⟩) l.length oc, .agg (bytesA 32 hh.f), .slice (some ⟨w7.heap.size, 0, none⟩) 1 1, v4, .int .i64 ((t : Int) + 1), rfl, by omega, l ++ [hh], at_ + 32, JC2.out, HI4.out, HO4.out, HOn4.out, Hg4.out, by rw [List.length_append]; simp [JLn.out]⟩, ?_⟩
     simp only [intOf]; show n - ((t : Int) + 1).toNat < n - ((t : Int)).toNat; omega
   ·have ht0' : ¬ (0 : Int) < (t : Int) := by omega
    have HB7 : Keep (Below w3.heap.size w3 w3.drew) := ⟨hD0⟩
    have JC2 := Keep.mk (JC.out.trans ((if_neg (by simp [hE])).trans (if_neg (fun h => ht0 (by have := JLn.out; have := h.1; omega)))))
    refine wp_region_held_drew (S := fun _ => True) (by kernel_rfl) (trivial) (fun hHeld => ?_)
    refine tkS (i := 0) (oi := ⟨some 21, Op.move (Operand.tmp 6), 3, _, _, none⟩) (v := .int .i64 (t : Int)) rfl (Or.inl ⟨by rfl, fun w hS => by go_simp⟩) hHeld ?_
    refine tkS (i := 1) (oi := ⟨some 22, Op.binOp BinOp.gtr 3 (Operand.tmp 21) (Operand.const (Value.int IntKind.i64 0)) 3, 4, _, _, none⟩) (v := .bool false) rfl (Or.inl ⟨by rfl, fun w hS => by go_simp⟩) hHeld ?_
    refine tkS (i := 2) (oi := ⟨some 23, Op.move (Operand.tmp 22), 4, _, _, none⟩) (v := .bool false) rfl (Or.inl ⟨by rfl, fun w hS => by go_simp⟩) hHeld ?_
    refine tkS (i := 3) (oi := ⟨some 24, Op.move (Operand.tmp 5), 25, _, _, some (2, true)⟩) (v := undef) rfl (Or.inr ⟨by rfl, rfl⟩) hHeld ?_
    refine tkS (i := 4) (oi := ⟨some 25, Op.move (Operand.tmp 6), 3, _, _, some (2, true)⟩) (v := undef) rfl (Or.inr ⟨by rfl, rfl⟩) hHeld ?_
    refine tkS (i := 5) (oi := ⟨some 26, Op.binOp BinOp.sub 3 (Operand.tmp 25) (Operand.const (Value.int IntKind.i64 1)) 3, 3, _, _, some (2, true)⟩) (v := undef) rfl (Or.inr ⟨by rfl, rfl⟩) hHeld ?_
    refine tkS (i := 6) (oi := ⟨some 27, Op.indexAddr 25 (Operand.tmp 24) (Operand.tmp 26), 0, _, _, some (2, true)⟩) (v := undef) rfl (Or.inr ⟨by rfl, rfl⟩) hHeld ?_
    refine tkS (i := 7) (oi := ⟨some 28, Op.load 41 (Operand.tmp 27), 41, _, _, some (2, true)⟩) (v := undef) rfl (Or.inr ⟨by rfl, rfl⟩) hHeld ?_
    refine tkS (i := 8) (oi := ⟨some 29, Op.load 41 (Operand.tmp 8), 41, _, _, some (2, true)⟩) (v := undef) rfl (Or.inr ⟨by rfl, rfl⟩) hHeld ?_
    refine tkS (i := 9) (oi := ⟨some 30, Op.call { callee := Callee.value (Operand.func 87), args := #[Operand.tmp 28, Operand.tmp 29], argTypes := #[41, 41] }, 3, _, _, some (2, true)⟩) (v := undef) rfl (Or.inr ⟨by rfl, rfl⟩) hHeld ?_
    refine tkS (i := 10) (oi := ⟨some 31, Op.binOp BinOp.geq 3 (Operand.tmp 30) (Operand.const (Value.int IntKind.i64 0)) 3, 4, _, _, some (2, true)⟩) (v := undef) rfl (Or.inr ⟨by rfl, rfl⟩) hHeld ?_
    refine tkS (i := 11) (oi := ⟨some 32, Op.pick (Operand.tmp 23) (Operand.tmp 31) (Operand.const (Value.bool false)), 4, _, _, none⟩) (v := .bool false) rfl (Or.inl ⟨by rfl, fun w hS => by go_simp⟩) hHeld ?_
    refine wpAnyH_done (by kernel_rfl) ?_ _
    refine hK12 _ _ ?_
    refine wp_cond_false rfl ?_
    refine wp_skip ?_
    refine hK11 _ _ ?_
    refine rgn ?_
    refine VlS (.slice oa l.length oc) ?_
    refine WL.row (by kernel_rfl) 41 (.tmp 8) rfl w2.heap.size rfl 41 (bytesA 32 hh.f) _ (HX3.out.below HB7.out HX3.out.lt) Tryz.underlying41 rfl (Tryz.size41B _) ?_
    simp only [Act.put, pqA, pqB, pqC]
    refine WL.bs (by kernel_rfl) 25 1 _ rfl #[(0, .agg (bytesA 32 hh.f))] (by simp [Act.eval]) _ _ (bsH hh w3.drew) ?_
    have HB8 := Keep.mk (Blk.new w3.drew 41 (bytesA 32 hh.f))
    have B8 : Keep (Below w3.heap.size w3 (w3.drew.alloc (.cells (bytesA 32 hh.f) 41))) := ⟨HB7.out.trans ((below_new w3.drew _).mono HB7.out.size)⟩
    generalize w3.drew.alloc (.cells (bytesA 32 hh.f) 41) = w8 at *
    simp only [Act.put, pqA, pqB, pqC]
    refine WL.appH (by kernel_rfl) (.tmp 35) (.tmp 37) rfl (.slice oa l.length oc) l w3.drew.heap.size hh rfl rfl (HO3.out.below B8.out) HB8.out (by have := JLn.out; have := Hn.out; omega) ?_
    intro v4 w4 h1 h2 h3
    have HO4 := Keep.mk h1
    have Hg4 : Keep (Grown w w4 fun k => k = p) := ⟨(HG3.out.trans (Grown.below B8.out)).next h2 (fun k hk e => absurd (JOn.out k e) (by omega))⟩
    have HI4 : Keep (InAt w4 p s (at_ + N) none) := ⟨h2.blk (HI3.out.blk.below B8.out HI3.out.blk.lt) (fun e => (HO3.out.below B8.out).ne (HI3.out.blk.below B8.out HI3.out.blk.lt) (by decide) e), HI3.out.le⟩
    have HOn4 : Keep (∀ k, v4.ownBlock = some k → w.heap.size ≤ k) := ⟨fun k hk => by
     rcases h3 with e | ⟨j, e, hj⟩
     ·rw [e] at hk; exact JOn.out k hk
     ·rw [e] at hk; injection hk with hk; have := HG3.out.size; have := B8.out.size; omega⟩
    clear h1 h2 h3
    simp only [Act.put, pqA, pqB, pqC]
    refine VlS (v4) ?_
    refine WL.nil (hK7 _ _ ?_)
    refine rgn ?_
    refine VlS (.int .i64 ((t : Int) + 1)) ?_
    refine VlS (.int .i64 ((t : Int) + 1)) ?_
    refine WL.nil ?_
    rw [HN32.out hE] at HI4
    refine ⟨⟨t + 1, v4, .int .i64 (t : Int), .int .i64 (at_ : Int), .pointer (some ⟨w2.heap.size, 0, none⟩), .bool true, .int .i64 (t : Int), .pointer (some ⟨p, 0, none⟩), .int .i64 (at_ : Int), .pointer (some ⟨p, 0, none⟩), .tuple #[.agg (bytesA 32 hh.f), .nilIface], .agg (bytesA 32 hh.f), .nilIface, .agg (bytesA 32 hh.f), .int .i64 (t : Int), .bool false, .bool false, undef, undef, undef, undef, undef, undef, undef, undef, .bool false, u33, u34, .slice oa l.length oc, .agg (bytesA 32 hh.f), .slice (some ⟨w3.drew.heap.size, 0, none⟩) 1 1, v4, .int .i64 ((t : Int) + 1), rfl, by omega, l ++ [hh], at_ + 32, JC2.out, HI4.out, HO4.out, HOn4.out, Hg4.out, by rw [List.length_append]; simp [JLn.out]⟩, ?_⟩
    simp only [intOf]; show n - ((t : Int) + 1).toNat < n - ((t : Int)).toNat; omega
  ·rcases H3.out with ⟨e1, _, _⟩ | ⟨_, q, hq, rfl, rfl, hbad⟩
   ·exact absurd e1 hE
   have Hbad := Keep.mk hbad
   clear hbad
   unfold err
   refine VlS (.agg (bytesA 32 (hrd D W))) ?_
   refine VlS (.iface 69 (ptr q)) ?_
   refine WL.callP (by kernel_rfl) 85 _ _ rfl Tryz.in85 #[.agg (bytesA 32 (hrd D W)), err q] (by simp [Act.eval, err]) ?_
   refine (mustH_bad _ q w1).mono ?_
   rintro e w' ⟨rfl, hbz⟩
   refine .inr ⟨_, rfl, ?_⟩
   try simp only [Exit.inBlock, Exit.then]
   refine ⟨rfl, ?_⟩
   exact .inr ⟨by rw [HR.out, JC.out, if_pos hE]; exact hE, q, Nat.le_trans JG.out.size hq, rfl, by rw [HR.out, JC.out, if_pos hE]; exact Hbad.out.below hbz Hbad.out.lt, H2.out.trans (Grown.below hbz)⟩
 ·have hte : Keep (t = n) := ⟨by omega⟩
  have htl' : ¬ (t : Int) < (n : Int) := by omega
  refine wp_seq_k fun K13 hK13 => rgn ?_
  refine VlS (.bool false) ?_
  refine WL.nil (hK13 _ _ ?_)
  refine wp_seq_k fun K14 hK14 => ?_
  refine wp_cond_false rfl ?_
  refine wp_exit ?_
  refine hK3 _ _ ?_
  refine wp_seq_k fun K15 hK15 => rgn ?_
  refine VlS (u5) ?_
  refine VlS (u5) ?_
  refine WL.nil (hK15 _ _ ?_)
  refine wp_ret ?_
  go_ret
  rw [hte.out, Nat.sub_self, getH] at hC
  rw [HR.out, hC]
  exact .inl ⟨rfl, u5, rfl, hO, hOn, hI, hG⟩
structure NodeV where
 au : Int
 ck : Int
 ps : List Hs
 ops : List OpV
def zeroN : NodeV := ⟨0, 0, [], []⟩
def ndA (au ck : Int) (vp vo : Value) : Array Value := #[.int .i64 au, .int .i64 ck, vp, vo]
def noS : Value := .slice none 0 0
theorem Tryz.new28N (w : World) : (Instr.alloc 28 true (.tuple #[])).run Tryz.prog w = .ok (.pointer (some ⟨w.heap.size, 0, none⟩)) (w.alloc (.cells (ndA 0 0 noS noS) 28)) := by kernel_rfl
theorem Tryz.size28 : (Tryz.prog.info? 28).map (·.size) = some 4 := by kernel_rfl
theorem Tryz.size28B (a c : Int) (x y : Value) : (Tryz.prog.info? 28).map (·.size) = some (ndA a c x y).size := Tryz.size28
theorem nd_built0 : Tryz.prog.built 28 [] = some (ndA 0 0 noS noS) := by kernel_rfl
theorem nd_built1 (a : Int) : Tryz.prog.built 28 [(0, .int .i64 a)] = some (ndA a 0 noS noS) := by kernel_rfl
theorem nd_one (a c : Int) (pa : Option Addr) (pn pc : Nat) (oa : Option Addr) (on oc : Nat) : (ndA a c (.slice pa pn pc) (.slice oa on oc)).all (·.oneCell') = true := by simp [ndA, Value.oneCell']
theorem nd_0 (a c : Int) (x y : Value) : (ndA a c x y)[0]? = some (.int .i64 a) := rfl
theorem nd_1 (a c : Int) (x y : Value) : (ndA a c x y)[1]? = some (.int .i64 c) := rfl
theorem nd_2 (a c : Int) (x y : Value) : (ndA a c x y)[2]? = some x := rfl
theorem nd_3 (a c : Int) (x y : Value) : (ndA a c x y)[3]? = some y := rfl
theorem nd_set1 (a c : Int) (x y : Value) (k : Int) : (ndA a c x y).setIfInBounds 1 (.int .i64 k) = ndA a k x y := rfl
theorem nd_set2 (a c : Int) (x y z : Value) : (ndA a c x y).setIfInBounds 2 z = ndA a c z y := rfl
theorem nd_set3 (a c : Int) (x y z : Value) : (ndA a c x y).setIfInBounds 3 z = ndA a c x z := rfl
def decR (L : List Int) : Int × Nat × NodeV :=
 if (formR L 0).1 ≠ 0 then ((formR L 0).1, (formR L 0).2, zeroN)
 else if (auR L 1).1 ≠ 0 then ((auR L 1).1, (auR L 1).2, zeroN)
 else if (ckR L 2).1 ≠ 0 then ((ckR L 2).1, (ckR L 2).2, zeroN)
 else if (fstM (L.drop (ckR L 2).2) 64).2.2 ≠ 0 then ((fstM (L.drop (ckR L 2).2) 64).2.2, (ckR L 2).2 + (fstM (L.drop (ckR L 2).2) 64).2.1.toNat, zeroN)
 else if (((fstM (L.drop 2) 4096).1 == 1) == ((fstM (L.drop (ckR L 2).2) 64).1 == 0)) = false then (51, 2, zeroN)
 else if (getH L (fstM (L.drop (ckR L 2).2) 64).1.toNat [] ((ckR L 2).2 + (fstM (L.drop (ckR L 2).2) 64).2.1.toNat)).1 ≠ 0 then
  ((getH L (fstM (L.drop (ckR L 2).2) 64).1.toNat [] ((ckR L 2).2 + (fstM (L.drop (ckR L 2).2) 64).2.1.toNat)).1, (getH L (fstM (L.drop (ckR L 2).2) 64).1.toNat [] ((ckR L 2).2 + (fstM (L.drop (ckR L 2).2) 64).2.1.toNat)).2.1, zeroN)
 else if (getL L (getH L (fstM (L.drop (ckR L 2).2) 64).1.toNat [] ((ckR L 2).2 + (fstM (L.drop (ckR L 2).2) 64).2.1.toNat)).2.1).1 ≠ 0 then
  ((getL L (getH L (fstM (L.drop (ckR L 2).2) 64).1.toNat [] ((ckR L 2).2 + (fstM (L.drop (ckR L 2).2) 64).2.1.toNat)).2.1).1, (getL L (getH L (fstM (L.drop (ckR L 2).2) 64).1.toNat [] ((ckR L 2).2 + (fstM (L.drop (ckR L 2).2) 64).2.1.toNat)).2.1).2.1, zeroN)
 else if (getL L (getH L (fstM (L.drop (ckR L 2).2) 64).1.toNat [] ((ckR L 2).2 + (fstM (L.drop (ckR L 2).2) 64).2.1.toNat)).2.1).2.1 < L.length then (23, (getL L (getH L (fstM (L.drop (ckR L 2).2) 64).1.toNat [] ((ckR L 2).2 + (fstM (L.drop (ckR L 2).2) 64).2.1.toNat)).2.1).2.1, zeroN)
 else (0, (getL L (getH L (fstM (L.drop (ckR L 2).2) 64).1.toNat [] ((ckR L 2).2 + (fstM (L.drop (ckR L 2).2) 64).2.1.toNat)).2.1).2.1, ⟨(L.drop 1).getD 0 0, (fstM (L.drop 2) 4096).1, (getH L (fstM (L.drop (ckR L 2).2) 64).1.toNat [] ((ckR L 2).2 + (fstM (L.drop (ckR L 2).2) 64).2.1.toNat)).2.2, (getL L (getH L (fstM (L.drop (ckR L 2).2) 64).1.toNat [] ((ckR L 2).2 + (fstM (L.drop (ckR L 2).2) 64).2.1.toNat)).2.1).2.2⟩)
theorem Gives.of {p : Nat} {R : Int × Nat} {w w1 w' : World} {e : Ending} (hg : Grown w w1 fun k => k = p) (h : Gives p R w1 e w') : Gives p R w e w' :=
 ⟨h.1, h.2.choose, Nat.le_trans hg.size h.2.choose_spec.1, h.2.choose_spec.2.1, h.2.choose_spec.2.2.1, hg.trans h.2.choose_spec.2.2.2⟩
def BlkPost (p : Nat) (R : Int × Nat × NodeV) (w : World) (e : Ending) (w' : World) : Prop :=
 (R.1 = 0 ∧ ∃ vp vo, e = .returned (.agg (ndA R.2.2.au R.2.2.ck vp vo)) ∧ OwnH w' vp R.2.2.ps ∧ OwnO w' vo R.2.2.ops ∧ (∀ k, vp.ownBlock = some k → w.heap.size ≤ k) ∧ (∀ k, vo.ownBlock = some k → w.heap.size ≤ k) ∧ (∀ x ∈ R.2.2.ops, OpOk x) ∧ R.2.2.ops.length ≤ 1024 ∧ Grown w w' fun k => k = p) ∨ Gives p (R.1, R.2.1) w e w'
theorem Tryz.in84 (w : World) (vs : Array Value) : (callFunc 84 vs).run Tryz.prog w = .ok (.enter 84 vs) w := by kernel_rfl
theorem Tryz.in43 (w : World) (vs : Array Value) : (callFunc 43 vs).run Tryz.prog w = .ok (.enter 43 vs) w := by kernel_rfl
theorem Tryz.in44 (w : World) (vs : Array Value) : (callFunc 44 vs).run Tryz.prog w = .ok (.enter 44 vs) w := by kernel_rfl
theorem Tryz.in46 (w : World) (vs : Array Value) : (callFunc 46 vs).run Tryz.prog w = .ok (.enter 46 vs) w := by kernel_rfl
theorem Tryz.in51 (w : World) (vs : Array Value) : (callFunc 51 vs).run Tryz.prog w = .ok (.enter 51 vs) w := by kernel_rfl
theorem Tryz.in54 (w : World) (vs : Array Value) : (callFunc 54 vs).run Tryz.prog w = .ok (.enter 54 vs) w := by kernel_rfl
theorem iend_good (p : Nat) (s : ByteArray) (a : Nat) (w : World) (hI : InAt w p s a none) (hb : s.size ≤ 140737488355328) :
  Calls Tryz.prog 54 #[ptr p] w fun e w' => (a = s.size ∧ e = .returned .nilIface ∧ Below w.heap.size w w') ∨ (a < s.size ∧ ∃ q, w.heap.size ≤ q ∧ e = .returned (err q) ∧ BadAt w' q 23 a ∧ Grown w w' fun k => k = p) := by
 have c2 : w.cell? ⟨p, 2, none⟩ = some (.pointer none) := by rw [hI.blk.cell]; rfl
 have HI := Keep.mk hI
 have Hb := Keep.mk hb
 clear hI hb
 go_enter Tryz.func54, Tryz.ntmps54
 refine wp_seq_k fun K1 hK1 => rgn ?_
 refine VlS (.nilIface) ?_
 refine WL.nil (hK1 _ _ ?_)
 refine wp_seq_k fun K2 hK2 => ?_
 refine wp_seq_k fun K3 hK3 => rgn ?_
 refine VlS (.pointer (some ⟨p, 0, none⟩)) ?_
 refine VlS (.pointer (some ⟨p, 0, none⟩)) ?_
 refine VlS (.pointer (some ⟨p, 2, none⟩)) ?_
 refine VlS (.pointer none) ?_
 refine VlS (.bool false) ?_
 refine WL.nil (hK3 _ _ ?_)
 refine wp_cond_false rfl ?_
 refine wp_skip ?_
 refine hK2 _ _ ?_
 refine wp_seq_k fun K4 hK4 => ?_
 refine wp_seq_k fun K5 hK5 => rgn ?_
 refine VlS (.pointer (some ⟨p, 0, none⟩)) ?_
 refine WL.callF (by kernel_rfl) 89 _ _ rfl Tryz.in89 #[ptr p] (by simp [Act.eval]) ?_
 refine (ileft_any p s a none w HI.out Hb.out).mono ?_
 rintro e w1 ⟨rfl, q1, rfl⟩
 refine ⟨_, rfl, ?_⟩
 simp only [Act.put, pqA, pqB, pqC]
 by_cases h3_2 : a < s.size
 ·skip
  refine VlS (.bool true) ?_
  refine WL.nil (hK5 _ _ ?_)
  refine wp_cond_true rfl ?_
  refine wp_seq_k fun K6 hK6 => ?_
  have HI1 : Keep (InAt (w.drewN q1) p s a none) := ⟨HI.out.blk, HI.out.le⟩
  refine rgn ?_
  refine VlS (.pointer (some ⟨p, 0, none⟩)) ?_
  refine WL.callF (by kernel_rfl) 84 _ _ rfl Tryz.in84 #[ptr p, .int .i64 23] (by simp [Act.eval]) ?_
  refine (ifail_any p s a 23 (w.drewN q1) HI1.out).mono ?_
  rintro e w2 ⟨rfl, h1, h2, h3⟩
  refine ⟨_, rfl, ?_⟩
  unfold err
  have HX := Keep.mk h2
  have HY := Keep.mk h3
  clear h1 h2 h3
  simp only [Act.put, pqA, pqB, pqC]
  refine VlS (.iface 69 (ptr (w.drewN q1).heap.size)) ?_
  refine WL.nil (hK6 _ _ ?_)
  refine wp_ret ?_
  go_ret
  exact .inr ⟨by omega, _, Nat.le_refl _, rfl, HX.out, (Grown.below (below_drewN w q1)).trans HY.out⟩
 ·skip
  refine VlS (.bool false) ?_
  refine WL.nil (hK5 _ _ ?_)
  refine wp_cond_false rfl ?_
  refine wp_skip ?_
  refine hK4 _ _ ?_
  refine wp_seq_k fun K7 hK7 => rgn ?_
  refine VlS (.nilIface) ?_
  refine WL.nil (hK7 _ _ ?_)
  refine wp_ret ?_
  go_ret
  exact .inl ⟨by have := HI.out.le; omega, rfl, below_drewN w q1⟩
theorem form_at {L : List Int} {a : Nat} (h : (formR L a).1 = 0) : (formR L a).2 = a + 1 := by
 unfold formR at h ⊢
 by_cases h0 : nextW (L.drop a) 1 = 0
 ·rw [if_neg (by simp [h0])] at h ⊢
  by_cases h1 : (L.drop a).getD 0 0 = 1
  ·rw [if_pos h1]
  ·rw [if_neg h1] at h; cases h
 ·rw [if_pos h0] at h; exact absurd h h0
theorem au_at {L : List Int} {a : Nat} (h : (auR L a).1 = 0) : (auR L a).2 = a + 1 := by
 unfold auR at h ⊢
 by_cases h0 : nextW (L.drop a) 1 = 0
 ·rw [if_neg (by simp [h0])] at h ⊢
  by_cases h1 : 1 ≤ (L.drop a).getD 0 0 ∧ (L.drop a).getD 0 0 ≤ 8
  ·rw [if_pos h1]
  ·rw [if_neg h1] at h; cases h
 ·rw [if_pos h0] at h; exact absurd h h0
set_option maxRecDepth 8000 in
set_option maxHeartbeats 4000000 in
theorem readBlock_any (p : Nat) (s : ByteArray) (w : World) (hI : InAt w p s 0 none) (hb : s.size ≤ 140737488355328) :
  Calls Tryz.prog 27 #[ptr p] w (BlkPost p (decR (lst s)) w) := by
 have HI := Keep.mk hI
 have Hb := Keep.mk hb
 have hc64 : ∀ (a : Nat) (w : World), InAt w p s a none → Calls Tryz.prog 48 #[ptr p, .int .u64 64] w (RdPost p s (fstM ((lst s).drop a) 64).2.2 (a + (fstM ((lst s).drop a) 64).2.1.toNat) (.int .u64 (fstM ((lst s).drop a) 64).1) w) := fun a w h => inum_good p s a 64 w h Hb.out
 obtain ⟨R, hR⟩ : ∃ R, R = decR (lst s) := ⟨_, rfl⟩
 have D1 : Keep ((formR (lst s) 0).1 ≠ 0 → R = ((formR (lst s) 0).1, (formR (lst s) 0).2, zeroN)) := ⟨fun x0 => by rw [hR]; unfold decR; rw [if_pos x0]⟩
 have D2 : Keep ((formR (lst s) 0).1 = 0 → (auR (lst s) 1).1 ≠ 0 → R = ((auR (lst s) 1).1, (auR (lst s) 1).2, zeroN)) := ⟨fun x0 x1 => by rw [hR]; unfold decR; rw [if_neg (by simp [x0]), if_pos x1]⟩
 have D3 : Keep ((formR (lst s) 0).1 = 0 → (auR (lst s) 1).1 = 0 → (ckR (lst s) 2).1 ≠ 0 → R = ((ckR (lst s) 2).1, (ckR (lst s) 2).2, zeroN)) := ⟨fun x0 x1 x2 => by rw [hR]; unfold decR; rw [if_neg (by simp [x0]), if_neg (by simp [x1]), if_pos x2]⟩
 have D4 : Keep ((formR (lst s) 0).1 = 0 → (auR (lst s) 1).1 = 0 → (ckR (lst s) 2).1 = 0 → ¬ (fstM ((lst s).drop (ckR (lst s) 2).2) 64).2.2 = 0 → R = ((fstM ((lst s).drop (ckR (lst s) 2).2) 64).2.2, (ckR (lst s) 2).2 + (fstM ((lst s).drop (ckR (lst s) 2).2) 64).2.1.toNat, zeroN)) := ⟨fun x0 x1 x2 x3 => by rw [hR]; unfold decR; rw [if_neg (by simp [x0]), if_neg (by simp [x1]), if_neg (by simp [x2]), if_pos x3]⟩
 have D5 : Keep ((formR (lst s) 0).1 = 0 → (auR (lst s) 1).1 = 0 → (ckR (lst s) 2).1 = 0 → (fstM ((lst s).drop (ckR (lst s) 2).2) 64).2.2 = 0 → ((((fstM ((lst s).drop 2) 4096).1 == 1) == ((fstM ((lst s).drop (ckR (lst s) 2).2) 64).1 == 0))) = false → R = (51, 2, zeroN)) := ⟨fun x0 x1 x2 x3 x4 => by rw [hR]; unfold decR; rw [if_neg (by simp [x0]), if_neg (by simp [x1]), if_neg (by simp [x2]), if_neg (by simp [x3]), if_pos x4]⟩
 have D6 : Keep ((formR (lst s) 0).1 = 0 → (auR (lst s) 1).1 = 0 → (ckR (lst s) 2).1 = 0 → (fstM ((lst s).drop (ckR (lst s) 2).2) 64).2.2 = 0 → ((((fstM ((lst s).drop 2) 4096).1 == 1) == ((fstM ((lst s).drop (ckR (lst s) 2).2) 64).1 == 0))) = true → (getH (lst s) (fstM ((lst s).drop (ckR (lst s) 2).2) 64).1.toNat [] ((ckR (lst s) 2).2 + (fstM ((lst s).drop (ckR (lst s) 2).2) 64).2.1.toNat)).1 ≠ 0 → R = ((getH (lst s) (fstM ((lst s).drop (ckR (lst s) 2).2) 64).1.toNat [] ((ckR (lst s) 2).2 + (fstM ((lst s).drop (ckR (lst s) 2).2) 64).2.1.toNat)).1, (getH (lst s) (fstM ((lst s).drop (ckR (lst s) 2).2) 64).1.toNat [] ((ckR (lst s) 2).2 + (fstM ((lst s).drop (ckR (lst s) 2).2) 64).2.1.toNat)).2.1, zeroN)) := ⟨fun x0 x1 x2 x3 x4 x5 => by rw [hR]; unfold decR; rw [if_neg (by simp [x0]), if_neg (by simp [x1]), if_neg (by simp [x2]), if_neg (by simp [x3]), if_neg (by rw [x4]; decide), if_pos x5]⟩
 have D7 : Keep ((formR (lst s) 0).1 = 0 → (auR (lst s) 1).1 = 0 → (ckR (lst s) 2).1 = 0 → (fstM ((lst s).drop (ckR (lst s) 2).2) 64).2.2 = 0 → ((((fstM ((lst s).drop 2) 4096).1 == 1) == ((fstM ((lst s).drop (ckR (lst s) 2).2) 64).1 == 0))) = true → (getH (lst s) (fstM ((lst s).drop (ckR (lst s) 2).2) 64).1.toNat [] ((ckR (lst s) 2).2 + (fstM ((lst s).drop (ckR (lst s) 2).2) 64).2.1.toNat)).1 = 0 → ¬ (getL (lst s) (getH (lst s) (fstM ((lst s).drop (ckR (lst s) 2).2) 64).1.toNat [] ((ckR (lst s) 2).2 + (fstM ((lst s).drop (ckR (lst s) 2).2) 64).2.1.toNat)).2.1).1 = 0 → R = ((getL (lst s) (getH (lst s) (fstM ((lst s).drop (ckR (lst s) 2).2) 64).1.toNat [] ((ckR (lst s) 2).2 + (fstM ((lst s).drop (ckR (lst s) 2).2) 64).2.1.toNat)).2.1).1, (getL (lst s) (getH (lst s) (fstM ((lst s).drop (ckR (lst s) 2).2) 64).1.toNat [] ((ckR (lst s) 2).2 + (fstM ((lst s).drop (ckR (lst s) 2).2) 64).2.1.toNat)).2.1).2.1, zeroN)) := ⟨fun x0 x1 x2 x3 x4 x5 x6 => by rw [hR]; unfold decR; rw [if_neg (by simp [x0]), if_neg (by simp [x1]), if_neg (by simp [x2]), if_neg (by simp [x3]), if_neg (by rw [x4]; decide), if_neg (by simp [x5]), if_pos x6]⟩
 have D8 : Keep ((formR (lst s) 0).1 = 0 → (auR (lst s) 1).1 = 0 → (ckR (lst s) 2).1 = 0 → (fstM ((lst s).drop (ckR (lst s) 2).2) 64).2.2 = 0 → ((((fstM ((lst s).drop 2) 4096).1 == 1) == ((fstM ((lst s).drop (ckR (lst s) 2).2) 64).1 == 0))) = true → (getH (lst s) (fstM ((lst s).drop (ckR (lst s) 2).2) 64).1.toNat [] ((ckR (lst s) 2).2 + (fstM ((lst s).drop (ckR (lst s) 2).2) 64).2.1.toNat)).1 = 0 → (getL (lst s) (getH (lst s) (fstM ((lst s).drop (ckR (lst s) 2).2) 64).1.toNat [] ((ckR (lst s) 2).2 + (fstM ((lst s).drop (ckR (lst s) 2).2) 64).2.1.toNat)).2.1).1 = 0 → (getL (lst s) (getH (lst s) (fstM ((lst s).drop (ckR (lst s) 2).2) 64).1.toNat [] ((ckR (lst s) 2).2 + (fstM ((lst s).drop (ckR (lst s) 2).2) 64).2.1.toNat)).2.1).2.1 < (lst s).length → R = (23, (getL (lst s) (getH (lst s) (fstM ((lst s).drop (ckR (lst s) 2).2) 64).1.toNat [] ((ckR (lst s) 2).2 + (fstM ((lst s).drop (ckR (lst s) 2).2) 64).2.1.toNat)).2.1).2.1, zeroN)) := ⟨fun x0 x1 x2 x3 x4 x5 x6 x7 => by rw [hR]; unfold decR; rw [if_neg (by simp [x0]), if_neg (by simp [x1]), if_neg (by simp [x2]), if_neg (by simp [x3]), if_neg (by rw [x4]; decide), if_neg (by simp [x5]), if_neg (by simp [x6]), if_pos x7]⟩
 have D9 : Keep ((formR (lst s) 0).1 = 0 → (auR (lst s) 1).1 = 0 → (ckR (lst s) 2).1 = 0 → (fstM ((lst s).drop (ckR (lst s) 2).2) 64).2.2 = 0 → ((((fstM ((lst s).drop 2) 4096).1 == 1) == ((fstM ((lst s).drop (ckR (lst s) 2).2) 64).1 == 0))) = true → (getH (lst s) (fstM ((lst s).drop (ckR (lst s) 2).2) 64).1.toNat [] ((ckR (lst s) 2).2 + (fstM ((lst s).drop (ckR (lst s) 2).2) 64).2.1.toNat)).1 = 0 → (getL (lst s) (getH (lst s) (fstM ((lst s).drop (ckR (lst s) 2).2) 64).1.toNat [] ((ckR (lst s) 2).2 + (fstM ((lst s).drop (ckR (lst s) 2).2) 64).2.1.toNat)).2.1).1 = 0 → ¬ (getL (lst s) (getH (lst s) (fstM ((lst s).drop (ckR (lst s) 2).2) 64).1.toNat [] ((ckR (lst s) 2).2 + (fstM ((lst s).drop (ckR (lst s) 2).2) 64).2.1.toNat)).2.1).2.1 < (lst s).length → R = (0, (getL (lst s) (getH (lst s) (fstM ((lst s).drop (ckR (lst s) 2).2) 64).1.toNat [] ((ckR (lst s) 2).2 + (fstM ((lst s).drop (ckR (lst s) 2).2) 64).2.1.toNat)).2.1).2.1, ⟨((lst s).drop 1).getD 0 0, (fstM ((lst s).drop 2) 4096).1, (getH (lst s) (fstM ((lst s).drop (ckR (lst s) 2).2) 64).1.toNat [] ((ckR (lst s) 2).2 + (fstM ((lst s).drop (ckR (lst s) 2).2) 64).2.1.toNat)).2.2, (getL (lst s) (getH (lst s) (fstM ((lst s).drop (ckR (lst s) 2).2) 64).1.toNat [] ((ckR (lst s) 2).2 + (fstM ((lst s).drop (ckR (lst s) 2).2) 64).2.1.toNat)).2.1).2.2⟩)) := ⟨fun x0 x1 x2 x3 x4 x5 x6 x7 => by rw [hR]; unfold decR; rw [if_neg (by simp [x0]), if_neg (by simp [x1]), if_neg (by simp [x2]), if_neg (by simp [x3]), if_neg (by rw [x4]; decide), if_neg (by simp [x5]), if_neg (by simp [x6]), if_neg x7]⟩
 rw [← hR]
 clear hI hb hR
 go_enter Tryz.func27, Tryz.ntmps27
 refine wp_seq_k fun K1 hK1 => rgn ?_
 refine WL.new (by kernel_rfl) 28 rfl _ Tryz.new28N ?_
 have HZ0 := Keep.mk (Blk.new w 28 (ndA 0 0 noS noS))
 have HG0 : Keep (Grown w (w.alloc (.cells (ndA 0 0 noS noS) 28)) fun k => k = p) := ⟨Grown.below (below_new w _)⟩
 have HI0 : Keep (InAt (w.alloc (.cells (ndA 0 0 noS noS) 28)) p s 0 none) := ⟨HI.out.blk.below (below_new w _) HI.out.blk.lt, HI.out.le⟩
 generalize w.alloc (.cells (ndA 0 0 noS noS) 28) = w0 at *
 simp only [Act.put, pqA, pqB, pqC]
 refine WL.nil (hK1 _ _ ?_)
 refine wp_seq_k fun K2 hK2 => rgn ?_
 refine VlS (.pointer (some ⟨p, 0, none⟩)) ?_
 refine WL.callP (by kernel_rfl) 43 _ _ rfl Tryz.in43 #[ptr p] (by simp [Act.eval]) ?_
 refine (readForm_any p s 0 w0 HI0.out Hb.out).mono ?_
 rintro e w1 (⟨e1, rfl, h2, h3⟩ | hgv)
 rotate_left
 ·have hne := hgv.1
  obtain ⟨q, hq, rfl, hbg⟩ := hgv.2
  refine .inr ⟨_, rfl, ?_⟩
  try simp only [Exit.inBlock, Exit.then]
  refine ⟨rfl, ?_⟩
  exact .inr (Gives.of HG0.out (by rw [D1.out hne]; exact ⟨hne, q, hq, rfl, hbg⟩))
 refine .inl ⟨_, rfl, ?_⟩
 have HE1 := Keep.mk e1
 rw [form_at e1] at h2
 have HI1 : Keep (InAt w1 p s 1 none) := ⟨h2⟩
 have HZ1 := Keep.mk (h3.blk HZ0.out (blk_ne HZ0.out HI0.out.blk (by decide)))
 have HG1 := Keep.mk (HG0.out.trans h3)
 clear h2 h3 e1
 simp only [Act.put, pqA, pqB, pqC]
 refine WL.nil (hK2 _ _ ?_)
 refine wp_seq_k fun K3 hK3 => rgn ?_
 refine VlS (.pointer (some ⟨p, 0, none⟩)) ?_
 refine WL.callP (by kernel_rfl) 44 _ _ rfl Tryz.in44 #[ptr p] (by simp [Act.eval]) ?_
 refine (readAuthor_any p s 1 w1 HI1.out Hb.out).mono ?_
 rintro e w2 (⟨e1, rfl, h2, h3⟩ | hgv)
 rotate_left
 ·have hne := hgv.1
  obtain ⟨q, hq, rfl, hbg⟩ := hgv.2
  refine .inr ⟨_, rfl, ?_⟩
  try simp only [Exit.inBlock, Exit.then]
  refine ⟨rfl, ?_⟩
  exact .inr (Gives.of HG1.out (by rw [D2.out HE1.out hne]; exact ⟨hne, q, hq, rfl, hbg⟩))
 refine .inl ⟨_, rfl, ?_⟩
 have HE2 := Keep.mk e1
 rw [au_at e1] at h2
 have HI2 : Keep (InAt w2 p s 2 none) := ⟨h2⟩
 have HZ2 := Keep.mk (h3.blk HZ1.out (blk_ne HZ1.out HI1.out.blk (by decide)))
 have HG2 := Keep.mk (HG1.out.trans h3)
 clear h2 h3 e1
 obtain ⟨au, hau⟩ : ∃ au, au = ((lst s).drop 1).getD 0 0 := ⟨_, rfl⟩
 rw [← hau]
 have HAu := Keep.mk hau
 clear hau
 simp only [Act.put, pqA, pqB, pqC]
 refine WL.bld (by kernel_rfl) 28 _ rfl [(0, .int .i64 au)] (by simp [Act.eval]) _ (nd_built1 au) ?_
 simp only [Act.put, pqA, pqB, pqC]
 refine WL.new (by kernel_rfl) 28 rfl _ Tryz.new28N ?_
 simp only [Act.put, pqA, pqB, pqC]
 refine WL.storeR (by kernel_rfl) 28 (.tmp 3) (.tmp 11) rfl w2.heap.size (ndA au 0 noS noS) rfl rfl 28 (ndA 0 0 noS noS) (Blk.new w2 28 _) (Tryz.size28B _ _ _ _) rfl (nd_one au 0 none 0 0 none 0 0) ?_
 have HX3 := Keep.mk ((Blk.new w2 28 (ndA 0 0 noS noS)).setRow (ndA au 0 noS noS))
 have B3 : Keep (Below w2.heap.size w2 ((w2.alloc (.cells (ndA 0 0 noS noS) 28)).setRow w2.heap.size (ndA au 0 noS noS))) := ⟨below_setRow (below_new w2 _) (Nat.le_refl _) _⟩
 generalize (w2.alloc (.cells (ndA 0 0 noS noS) 28)).setRow w2.heap.size (ndA au 0 noS noS) = w3 at *
 have HZ3 := Keep.mk (HZ2.out.below B3.out HZ2.out.lt)
 have HI3 : Keep (InAt w3 p s 2 none) := ⟨HI2.out.blk.below B3.out HI2.out.blk.lt, HI2.out.le⟩
 have HG3 : Keep (Grown w w3 fun k => k = p) := ⟨HG2.out.trans (Grown.below B3.out)⟩
 have Hgn : Keep (w.heap.size < w2.heap.size) := ⟨HZ2.out.lt⟩
 clear B3 HZ2 HI2 HG2
 generalize w2.heap.size = g at *
 simp only [Act.put]
 refine WL.nil (hK3 _ _ ?_)
 refine wp_seq_k fun K4 hK4 => rgn ?_
 refine VlS (.pointer (some ⟨p, 0, none⟩)) ?_
 refine WL.callF (by kernel_rfl) 45 _ _ rfl Tryz.in45 #[ptr p] (by simp [Act.eval]) ?_
 refine (iat_any p s 2 none w3 HI3.out).mono ?_
 rintro e wz ⟨rfl, hw0⟩
 rw [hw0]
 clear hw0 wz
 refine ⟨_, rfl, ?_⟩
 simp only [Act.put, pqA, pqB, pqC]
 refine VlS (.int .i64 ((2 : Nat) : Int)) ?_
 refine WL.nil (hK4 _ _ ?_)
 refine wp_seq_k fun K5 hK5 => rgn ?_
 refine VlS (.pointer (some ⟨p, 0, none⟩)) ?_
 refine WL.callP (by kernel_rfl) 46 _ _ rfl Tryz.in46 #[ptr p] (by simp [Act.eval]) ?_
 refine (readClock_any p s 2 w3 HI3.out Hb.out).mono ?_
 rintro e w4 (⟨e1, rfl, h2, h3⟩ | hgv)
 rotate_left
 ·have hne := hgv.1
  obtain ⟨q, hq, rfl, hbg⟩ := hgv.2
  refine .inr ⟨_, rfl, ?_⟩
  try simp only [Exit.inBlock, Exit.then]
  refine ⟨rfl, ?_⟩
  exact .inr (Gives.of HG3.out (by rw [D3.out HE1.out HE2.out hne]; exact ⟨hne, q, hq, rfl, hbg⟩))
 refine .inl ⟨_, rfl, ?_⟩
 have HE3 := Keep.mk e1
 obtain ⟨a1, ha1⟩ : ∃ a1, a1 = (ckR (lst s) 2).2 := ⟨_, rfl⟩
 rw [← ha1] at h2
 have Ha1 := Keep.mk ha1
 clear ha1
 have HI4 : Keep (InAt w4 p s a1 none) := ⟨h2⟩
 have HZ4 := Keep.mk (h3.blk HZ3.out (blk_ne HZ3.out HI3.out.blk (by decide)))
 have HG4 := Keep.mk (HG3.out.trans h3)
 have HX4 := Keep.mk (h3.blk HX3.out (blk_ne HX3.out HI3.out.blk (by decide)))
 clear h2 h3 e1
 obtain ⟨ck, hck⟩ : ∃ ck, ck = (fstM ((lst s).drop 2) 4096).1 := ⟨_, rfl⟩
 rw [← hck]
 have HCk := Keep.mk hck
 clear hck
 have c1 := HX4.out.c 1 (nd_1 _ _ _ _)
 have f1 := HX4.out.frozen 1
 simp only [Act.put, pqA, pqB, pqC]
 refine VlS (.pointer (some ⟨g, 1, none⟩)) ?_
 refine WL.cell (by kernel_rfl) (w4.setCell ⟨g, 1, none⟩ (.int .i64 ck)) (by go_simp) ?_
 have HX5 := Keep.mk (HX4.out.set 1 (.int .i64 ck))
 rw [nd_set1] at HX5
 have HI5 : Keep (InAt (w4.setCell ⟨g, 1, none⟩ (.int .i64 ck)) p s a1 none) := ⟨HI4.out.blk.set_ne (blk_ne HI4.out.blk HX4.out (by decide)) _, HI4.out.le⟩
 have HZ5 := Keep.mk (HZ4.out.set_ne (b' := g) (j := 1) (by have := Hgn.out; omega) (.int .i64 ck))
 have Gs : Grown w4 (w4.setCell ⟨g, 1, none⟩ (.int .i64 ck)) fun k => k = g := Grown.setCell w4 g 1 _ fun _ => rfl
 have HG5 : Keep (Grown w (w4.setCell ⟨g, 1, none⟩ (.int .i64 ck)) fun k => k = p) := ⟨HG4.out.next Gs (fun k hk e => by have := Hgn.out; omega)⟩
 generalize w4.setCell ⟨g, 1, none⟩ (.int .i64 ck) = w5 at *
 clear c1 f1 Gs
 simp only [Act.put]
 refine WL.nil (hK5 _ _ ?_)
 refine wp_seq_k fun K6 hK6 => rgn ?_
 refine VlS (.pointer (some ⟨p, 0, none⟩)) ?_
 refine WL.callF (by kernel_rfl) 48 _ _ rfl Tryz.in48 #[ptr p, .int .u64 64] (by simp [Act.eval]) ?_
 refine (hc64 a1 w5 HI5.out).mono ?_
 rintro e w6 ⟨bad, er, rfl, h2, h3, h4⟩
 refine ⟨_, rfl, ?_⟩
 have HZ6 := Keep.mk (h3.blk HZ5.out (blk_ne HZ5.out HI5.out.blk (by decide)))
 have HX6 := Keep.mk (h3.blk HX5.out (blk_ne HX5.out HI5.out.blk (by decide)))
 have HG6 := Keep.mk (HG5.out.trans h3)
 have Hq := Keep.mk h3
 have H3 := Keep.mk h4
 have H1 := Keep.mk h2
 clear h2 h3 h4
 have D4' := D4
 have D5' := D5
 have D6' := D6
 have D7' := D7
 have D8' := D8
 have D9' := D9
 rw [← Ha1.out] at D4' D5' D6' D7' D8' D9'
 have hrg := fst_rng ((lst s).drop a1) ((lst_byts s).drop a1) 64 (by decide)
 generalize fstM ((lst s).drop a1) 64 = M at *
 obtain ⟨cn, nn, W⟩ := M
 simp only at D4' D5' D6' D7' D8' D9' hrg H3 H1 ⊢
 obtain ⟨a2, ha2⟩ : ∃ a2, a2 = a1 + nn.toNat := ⟨_, rfl⟩
 rw [← ha2] at D4' D6' D7' D8' D9' H3 H1
 clear ha2
 simp only [Act.put, pqA, pqB, pqC]
 by_cases hE : W = 0
 ·rcases H3.out with ⟨e1, rfl, rfl⟩ | ⟨e1, _⟩
  rotate_left
  ·exact absurd hE e1
  obtain ⟨n, hn⟩ : ∃ n : Nat, cn = (n : Int) := ⟨cn.toNat, by omega⟩
  have Hn : Keep (n ≤ 64) := ⟨by omega⟩
  subst hn
  rw [Int.toNat_natCast] at D6' D7' D8' D9'
  have hwn : IntKind.i64.wrap (n : Int) = (n : Int) := by rw [IntKind.wrap_i64]; omega
  clear hrg
  have HI6 : Keep (InAt w6 p s a2 none) := ⟨H1.out⟩
  have c1 := HX6.out.c 1 (nd_1 _ _ _ _)
  refine VlS (.int .u64 (n : Int)) ?_
  refine VlS (.nilIface) ?_
  refine WL.callF (by kernel_rfl) 47 _ _ rfl Tryz.in47 #[.int .u64 (n : Int), .nilIface] (by simp [Act.eval]) ?_
  refine (must47_ok (.int .u64 (n : Int)) w6).mono ?_
  rintro e wz ⟨rfl, hw0⟩
  rw [hw0]
  clear hw0 wz
  refine ⟨_, rfl, ?_⟩
  simp only [Act.put, pqA, pqB, pqC]
  refine VlS (.int .i64 (n : Int)) ?_
  refine VlS (.int .i64 (n : Int)) ?_
  refine WL.nil (hK6 _ _ ?_)
  refine wp_seq_k fun K7 hK7 => ?_
  refine wp_seq_k fun K8 hK8 => ?_
  rcases Bool.eq_false_or_eq_true ((ck == 1) == ((n : Int) == 0)) with hF | hF
  ·have hcf := clockFits_is ck (n : Int) w6 _ hF
   refine rgn ?_
   refine VlS (.pointer (some ⟨g, 1, none⟩)) ?_
   refine VlS (.int .i64 ck) ?_
   refine VlS (.int .i64 (n : Int)) ?_
   refine WL.callF (by kernel_rfl) 49 _ _ rfl Tryz.in49 #[.int .i64 ck, .int .i64 (n : Int)] (by simp [Act.eval]) ?_
   refine (hcf).mono ?_
   rintro e wz ⟨rfl, hw0⟩
   rw [hw0]
   clear hw0 wz
   refine ⟨_, rfl, ?_⟩
   simp only [Act.put, pqA, pqB, pqC]
   refine VlS (.bool false) ?_
   refine WL.nil (hK8 _ _ ?_)
   refine wp_cond_false rfl ?_
   refine wp_skip ?_
   refine hK7 _ _ ?_
   refine wp_seq_k fun K9 hK9 => rgn ?_
   refine VlS (.pointer (some ⟨p, 0, none⟩)) ?_
   refine VlS (.int .i64 (n : Int)) ?_
   refine WL.callP (by kernel_rfl) 51 _ _ rfl Tryz.in51 #[ptr p, .int .i64 (n : Int)] (by simp [Act.eval]) ?_
   refine (readParents_any p s a2 n w6 HI6.out Hb.out Hn.out).mono ?_
   generalize getH (lst s) n [] a2 = H at *
   rintro e w7 (⟨e1, vp, rfl, h4, h5, h2, h3⟩ | hgv)
   rotate_left
   ·have hne := hgv.1
    obtain ⟨q, hq, rfl, hbg⟩ := hgv.2
    refine .inr ⟨_, rfl, ?_⟩
    try simp only [Exit.inBlock, Exit.then]
    refine ⟨rfl, ?_⟩
    exact .inr (Gives.of HG6.out (by rw [D6'.out HE1.out HE2.out HE3.out hE (by rw [← HCk.out]; exact hF) hne]; exact ⟨hne, q, hq, rfl, hbg⟩))
   refine .inl ⟨_, rfl, ?_⟩
   have HE4 := Keep.mk e1
   have HI7 : Keep (InAt w7 p s H.2.1 none) := ⟨h2⟩
   have HZ7 := Keep.mk (h3.blk HZ6.out (blk_ne HZ6.out HI6.out.blk (by decide)))
   have HG7 := Keep.mk (HG6.out.trans h3)
   have HX7 := Keep.mk (h3.blk HX6.out (blk_ne HX6.out HI6.out.blk (by decide)))
   have HO7 := Keep.mk h4
   have HOn7 : Keep (∀ k, vp.ownBlock = some k → w.heap.size ≤ k) := ⟨fun k hk => Nat.le_trans HG6.out.size (h5 k hk)⟩
   clear h2 h3 h4 h5 e1 c1
   obtain ⟨pa, pc, rfl⟩ := HO7.out.sl
   have c2 := HX7.out.c 2 (nd_2 _ _ _ _)
   have f2 := HX7.out.frozen 2
   simp only [Act.put, pqA, pqB, pqC]
   refine VlS (.pointer (some ⟨g, 2, none⟩)) ?_
   refine WL.cell (by kernel_rfl) (w7.setCell ⟨g, 2, none⟩ (.slice pa H.2.2.length pc)) (by go_simp) ?_
   have HX8 := Keep.mk (HX7.out.set 2 (.slice pa H.2.2.length pc))
   rw [nd_set2] at HX8
   have HI8 : Keep (InAt (w7.setCell ⟨g, 2, none⟩ (.slice pa H.2.2.length pc)) p s H.2.1 none) := ⟨HI7.out.blk.set_ne (blk_ne HI7.out.blk HX7.out (by decide)) _, HI7.out.le⟩
   have HZ8 := Keep.mk (HZ7.out.set_ne (b' := g) (j := 2) (by have := Hgn.out; omega) (.slice pa H.2.2.length pc))
   have Gs : Grown w7 (w7.setCell ⟨g, 2, none⟩ (.slice pa H.2.2.length pc)) fun k => k = g := Grown.setCell w7 g 2 _ fun _ => rfl
   have HG8 : Keep (Grown w (w7.setCell ⟨g, 2, none⟩ (.slice pa H.2.2.length pc)) fun k => k = p) := ⟨HG7.out.next Gs (fun k hk e => by have := Hgn.out; omega)⟩
   have HO8 := Keep.mk (HO7.out.grown Gs (fun k hk e => HO7.out.ne HX7.out (by decide) (e ▸ hk)))
   generalize w7.setCell ⟨g, 2, none⟩ (.slice pa H.2.2.length pc) = w8 at *
   clear c2 f2 Gs
   simp only [Act.put]
   refine WL.nil (hK9 _ _ ?_)
   refine wp_seq_k fun K10 hK10 => rgn ?_
   refine VlS (.pointer (some ⟨p, 0, none⟩)) ?_
   refine WL.callF (by kernel_rfl) 53 _ _ rfl Tryz.in53 #[ptr p] (by simp [Act.eval]) ?_
   refine (get_any p s H.2.1 w8 HI8.out Hb.out).mono ?_
   rintro e w9 ⟨vo, er, rfl, h3, h4⟩
   refine ⟨_, rfl, ?_⟩
   have HZ9 := Keep.mk (h3.blk HZ8.out (blk_ne HZ8.out HI8.out.blk (by decide)))
   have HX9 := Keep.mk (h3.blk HX8.out (blk_ne HX8.out HI8.out.blk (by decide)))
   have HG9 := Keep.mk (HG8.out.trans h3)
   have HO9 := Keep.mk (HO8.out.grown h3 (fun k hk e => HO8.out.ne HI8.out.blk (by decide) (e ▸ hk)))
   have H4 := Keep.mk h4
   clear h3 h4
   generalize getL (lst s) H.2.1 = G at *
   simp only [Act.put, pqA, pqB, pqC]
   by_cases hGe : G.1 = 0
   ·rcases H4.out with ⟨e1, rfl, h5, h6, h7, h8, h9⟩ | ⟨e1, _⟩
    rotate_left
    ·exact absurd hGe e1
    have HI9 : Keep (InAt w9 p s G.2.1 none) := ⟨h7⟩
    have HQ9 := Keep.mk h5
    have HQn : Keep (∀ k, vo.ownBlock = some k → w.heap.size ≤ k) := ⟨fun k hk => Nat.le_trans HG8.out.size (h6 k hk)⟩
    have Hok := Keep.mk h8
    have Hol := Keep.mk h9
    clear h5 h6 h7 h8 h9 e1
    obtain ⟨qa, qc, rfl⟩ := HQ9.out.sl
    have c3 := HX9.out.c 3 (nd_3 _ _ _ _)
    have f3 := HX9.out.frozen 3
    refine VlS (.slice qa G.2.2.length qc) ?_
    refine VlS (.nilIface) ?_
    refine WL.callF (by kernel_rfl) 52 _ _ rfl Tryz.in52 #[.slice qa G.2.2.length qc, .nilIface] (by simp [Act.eval]) ?_
    refine (must52_ok _ w9).mono ?_
    rintro e wz ⟨rfl, hw0⟩
    rw [hw0]
    clear hw0 wz
    refine ⟨_, rfl, ?_⟩
    simp only [Act.put, pqA, pqB, pqC]
    refine VlS (.pointer (some ⟨g, 3, none⟩)) ?_
    refine WL.cell (by kernel_rfl) (w9.setCell ⟨g, 3, none⟩ (.slice qa G.2.2.length qc)) (by go_simp) ?_
    have HX10 := Keep.mk (HX9.out.set 3 (.slice qa G.2.2.length qc))
    rw [nd_set3] at HX10
    have HI10 : Keep (InAt (w9.setCell ⟨g, 3, none⟩ (.slice qa G.2.2.length qc)) p s G.2.1 none) := ⟨HI9.out.blk.set_ne (blk_ne HI9.out.blk HX9.out (by decide)) _, HI9.out.le⟩
    have HZ10 := Keep.mk (HZ9.out.set_ne (b' := g) (j := 3) (by have := Hgn.out; omega) (.slice qa G.2.2.length qc))
    have Gs : Grown w9 (w9.setCell ⟨g, 3, none⟩ (.slice qa G.2.2.length qc)) fun k => k = g := Grown.setCell w9 g 3 _ fun _ => rfl
    have HG10 : Keep (Grown w (w9.setCell ⟨g, 3, none⟩ (.slice qa G.2.2.length qc)) fun k => k = p) := ⟨HG9.out.next Gs (fun k hk e => by have := Hgn.out; omega)⟩
    have HO10 := Keep.mk (HO9.out.grown Gs (fun k hk e => HO9.out.ne HX9.out (by decide) (e ▸ hk)))
    have HQ10 := Keep.mk (HQ9.out.grown Gs (fun k hk e => HQ9.out.ne HX9.out (by decide) (e ▸ hk)))
    generalize w9.setCell ⟨g, 3, none⟩ (.slice qa G.2.2.length qc) = w10 at *
    clear c3 f3 Gs
    simp only [Act.put]
    refine WL.nil (hK10 _ _ ?_)
    refine wp_seq_k fun K11 hK11 => ?_
    refine wp_seq_k fun K12 hK12 => rgn ?_
    refine VlS (.pointer (some ⟨p, 0, none⟩)) ?_
    refine WL.callF (by kernel_rfl) 54 _ _ rfl Tryz.in54 #[ptr p] (by simp [Act.eval]) ?_
    refine (iend_good p s G.2.1 w10 HI10.out Hb.out).mono ?_
    rintro e w11 (⟨e1, rfl, hb11⟩ | ⟨e1, q, hq, rfl, hbad, hgr⟩)
    ·refine ⟨_, rfl, ?_⟩
     simp only [Act.put, pqA, pqB, pqC]
     have B11 := Keep.mk hb11
     have He := Keep.mk e1
     clear hb11 e1
     have HX11 := Keep.mk (HX10.out.below B11.out HX10.out.lt)
     have HZ11 := Keep.mk (HZ10.out.below B11.out HZ10.out.lt)
     refine VlS (.nilIface) ?_
     refine WL.nil (hK12 _ _ ?_)
     refine wp_seq_k fun K13 hK13 => rgn ?_
     refine VlS (.nilIface) ?_
     refine VlS (.bool false) ?_
     refine WL.nil (hK13 _ _ ?_)
     refine wp_cond_false rfl ?_
     refine wp_skip ?_
     refine hK11 _ _ ?_
     refine wp_seq_k fun K14 hK14 => rgn ?_
     refine WL.row (by kernel_rfl) 28 (.tmp 3) rfl g rfl 28 (ndA au ck (.slice pa H.2.2.length pc) (.slice qa G.2.2.length qc)) _ HX11.out Tryz.underlying28 rfl (Tryz.size28B _ _ _ _) ?_
     simp only [Act.put, pqA, pqB, pqC]
     refine WL.storeR (by kernel_rfl) 28 (.tmp 2) (.tmp 46) rfl w.heap.size (ndA au ck (.slice pa H.2.2.length pc) (.slice qa G.2.2.length qc)) rfl rfl 28 (ndA 0 0 noS noS) HZ11.out (Tryz.size28B _ _ _ _) rfl (nd_one _ _ _ _ _ _ _ _) ?_
     have HZ12 := Keep.mk (HZ11.out.setRow (ndA au ck (.slice pa H.2.2.length pc) (.slice qa G.2.2.length qc)))
     have Gs : Grown w11 (w11.setRow w.heap.size (ndA au ck (.slice pa H.2.2.length pc) (.slice qa G.2.2.length qc))) fun k => k = w.heap.size := Grown.setRow w11 w.heap.size _ fun _ => rfl
     have HG12 : Keep (Grown w (w11.setRow w.heap.size (ndA au ck (.slice pa H.2.2.length pc) (.slice qa G.2.2.length qc))) fun k => k = p) := ⟨(HG10.out.trans (Grown.below B11.out)).next Gs (fun k hk e => by omega)⟩
     have HO12 := Keep.mk ((HO10.out.below B11.out).grown Gs (fun k hk e => (HO10.out.below B11.out).ne HZ11.out (by decide) (e ▸ hk)))
     have HQ12 := Keep.mk ((HQ10.out.below B11.out).grown Gs (fun k hk e => (HQ10.out.below B11.out).ne HZ11.out (by decide) (e ▸ hk)))
     generalize w11.setRow w.heap.size (ndA au ck (.slice pa H.2.2.length pc) (.slice qa G.2.2.length qc)) = w12 at *
     clear Gs
     simp only [Act.put]
     refine WL.nil (hK14 _ _ ?_)
     refine wp_ret ?_
     try simp only [Exit.then]
     refine bodyPost_ret (v := .agg (ndA au ck (.slice pa H.2.2.length pc) (.slice qa G.2.2.length qc))) (results_cell_row Tryz.results27 _ _ w.heap.size 28 _ (0, 0) _ rfl HZ12.out Tryz.underlying28 rfl (Tryz.size28B _ _ _ _)) rfl ?_
     have hR9 := D9'.out HE1.out HE2.out HE3.out hE (by rw [← HCk.out]; exact hF) HE4.out hGe (by rw [lst_len, He.out]; exact Nat.lt_irrefl _)
     rw [← HAu.out, ← HCk.out] at hR9
     rw [hR9]
     exact .inl ⟨rfl, _, _, rfl, HO12.out, HQ12.out, HOn7.out, HQn.out, Hok.out, Hol.out, HG12.out⟩
    ·refine ⟨_, rfl, ?_⟩
     unfold err
     simp only [Act.put, pqA, pqB, pqC]
     have Hbad := Keep.mk hbad
     have Hgr := Keep.mk (HG10.out.trans hgr)
     have Hq := Keep.mk (Nat.le_trans HG10.out.size hq)
     have He := Keep.mk e1
     clear hbad hgr hq e1
     refine VlS (.iface 69 (ptr q)) ?_
     refine WL.nil (hK12 _ _ ?_)
     refine wp_seq_k fun K15 hK15 => rgn ?_
     refine VlS (.iface 69 (ptr q)) ?_
     refine VlS (.bool true) ?_
     refine WL.nil (hK15 _ _ ?_)
     refine wp_cond_true rfl ?_
     refine rgn ?_
     refine VlS (.iface 69 (ptr q)) ?_
     refine WL.callP (by kernel_rfl) 55 _ _ rfl Tryz.in55 #[err q] (by simp [Act.eval, err]) ?_
     refine (giveUp_any q w11).mono ?_
     rintro e w' ⟨rfl, rfl⟩
     refine .inr ⟨_, rfl, ?_⟩
     try simp only [Exit.inBlock, Exit.then]
     refine ⟨rfl, ?_⟩
     have hR8 := D8'.out HE1.out HE2.out HE3.out hE (by rw [← HCk.out]; exact hF) HE4.out hGe (by rw [lst_len]; exact He.out)
     rw [hR8]
     exact .inr ⟨(by decide : (23 : Int) ≠ 0), q, Hq.out, rfl, Hbad.out, Hgr.out⟩
   ·rcases H4.out with ⟨e1, _⟩ | ⟨_, rfl, q, hq, rfl, hbad⟩
    ·exact absurd e1 hGe
    have Hbad := Keep.mk hbad
    clear hbad
    unfold err
    refine VlS (.slice none 0 0) ?_
    refine VlS (.iface 69 (ptr q)) ?_
    refine WL.callP (by kernel_rfl) 52 _ _ rfl Tryz.in52 #[.slice none 0 0, err q] (by simp [Act.eval, err]) ?_
    refine (must52_bad _ q w9).mono ?_
    rintro e w' ⟨rfl, rfl⟩
    refine .inr ⟨_, rfl, ?_⟩
    try simp only [Exit.inBlock, Exit.then]
    refine ⟨rfl, ?_⟩
    exact .inr ⟨by rw [D7'.out HE1.out HE2.out HE3.out hE (by rw [← HCk.out]; exact hF) HE4.out hGe]; exact hGe, q, Nat.le_trans HG8.out.size hq, rfl, by rw [D7'.out HE1.out HE2.out HE3.out hE (by rw [← HCk.out]; exact hF) HE4.out hGe]; exact Hbad.out, HG9.out⟩
  ·have hcf := clockFits_is ck (n : Int) w6 _ hF
   refine rgn ?_
   refine VlS (.pointer (some ⟨g, 1, none⟩)) ?_
   refine VlS (.int .i64 ck) ?_
   refine VlS (.int .i64 (n : Int)) ?_
   refine WL.callF (by kernel_rfl) 49 _ _ rfl Tryz.in49 #[.int .i64 ck, .int .i64 (n : Int)] (by simp [Act.eval]) ?_
   refine (hcf).mono ?_
   rintro e wz ⟨rfl, hw0⟩
   rw [hw0]
   clear hw0 wz
   refine ⟨_, rfl, ?_⟩
   simp only [Act.put, pqA, pqB, pqC]
   refine VlS (.bool true) ?_
   refine WL.nil (hK8 _ _ ?_)
   refine wp_cond_true rfl ?_
   refine rgn ?_
   refine VlS (.int .i64 ((2 : Nat) : Int)) ?_
   refine WL.callP (by kernel_rfl) 50 _ _ rfl Tryz.in50 #[.int .i64 51, .int .i64 ((2 : Nat) : Int)] (by simp [Act.eval]) ?_
   refine (at_any 51 (2 : Nat) w6).mono ?_
   rintro e wz ⟨rfl, hbz, hwz⟩
   have HBd : Keep (BadAt wz w6.heap.size 51 (2 : Nat)) := ⟨hbz⟩
   have HGd : Keep (Grown w wz fun k => k = p) := ⟨HG6.out.trans (Grown.below hwz)⟩
   clear hbz hwz
   refine .inr ⟨_, rfl, ?_⟩
   try simp only [Exit.inBlock, Exit.then]
   refine ⟨rfl, ?_⟩
   exact .inr ⟨by rw [D5'.out HE1.out HE2.out HE3.out hE (by rw [← HCk.out]; exact hF)]; exact (by decide : (51 : Int) ≠ 0), w6.heap.size, HG6.out.size, rfl, by rw [D5'.out HE1.out HE2.out HE3.out hE (by rw [← HCk.out]; exact hF)]; exact HBd.out, HGd.out⟩
 ·rcases H3.out with ⟨e1, _, _⟩ | ⟨_, q, hq, rfl, rfl, hbad⟩
  ·exact absurd e1 hE
  have Hbad := Keep.mk hbad
  clear hbad
  unfold err
  refine VlS (.int .u64 cn) ?_
  refine VlS (.iface 69 (ptr q)) ?_
  refine WL.callP (by kernel_rfl) 47 _ _ rfl Tryz.in47 #[.int .u64 cn, err q] (by simp [Act.eval, err]) ?_
  refine (must47_bad _ q w6).mono ?_
  rintro e w' ⟨rfl, rfl⟩
  refine .inr ⟨_, rfl, ?_⟩
  try simp only [Exit.inBlock, Exit.then]
  refine ⟨rfl, ?_⟩
  exact .inr ⟨by rw [D4'.out HE1.out HE2.out HE3.out hE]; exact hE, q, Nat.le_trans HG5.out.size hq, rfl, by rw [D4'.out HE1.out HE2.out HE3.out hE]; exact Hbad.out, HG6.out⟩
section
variable {P : Program} {ops : Array Oper} {rest : List Oper} {o : Oper} {a : Act} {w : World} {Q : Exit → Act → World → Prop}
theorem WL.defer (hw : Region.wanted o (yielded ops a.tmps) = true) (d : Deferred) (hrun : (execOp a.eval o).run P w = .ok (.defer d) w)
  (h : WL P ops Q rest ({ a with defers := d :: a.defers }.put o.dst undef) w) : WL P ops Q (o :: rest) a w :=
 ⟨wpList_wanted hw fun _ hK => by unfold Oper.wp; rw [hrun, Oper.upon_defer]; exact hK _ _ h.out⟩
end
theorem assertW (v : Value) (W : World) : (Instr.typeAssert (.iface 100 v) 20 100 true).run Tryz.prog W = .ok (.tuple #[v, .bool true]) W := by kernel_rfl
theorem Tryz.new100 (w : World) : (Instr.alloc 100 true (.tuple #[])).run Tryz.prog w = .ok (.pointer (some ⟨w.heap.size, 0, none⟩)) (w.alloc (.cells #[.nilIface] 100)) := by kernel_rfl
theorem Tryz.new30 (w : World) : (Instr.alloc 30 true (.tuple #[])).run Tryz.prog w = .ok (.pointer (some ⟨w.heap.size, 0, none⟩)) (w.alloc (.cells #[.nilIface] 30)) := by kernel_rfl
theorem Tryz.size100 : (Tryz.prog.info? 100).map (·.size) = some 1 := by kernel_rfl
theorem Tryz.in26 (w : World) (vs : Array Value) : (callFunc 26 vs).run Tryz.prog w = .ok (.enter 26 vs) w := by kernel_rfl
theorem Tryz.in27 (w : World) (vs : Array Value) : (callFunc 27 vs).run Tryz.prog w = .ok (.enter 27 vs) w := by kernel_rfl
theorem caught_any (q : Nat) (w : World) : Calls Tryz.prog 26 #[.iface 100 (.agg #[err q])] w fun e w' => e = .returned (err q) ∧ Below w.heap.size w w' := by
 have has := assertW (.agg #[err q])
 unfold err at has ⊢
 go_enter Tryz.func26, Tryz.ntmps26
 refine wp_seq_k fun K1 hK1 => rgn ?_
 refine VlS (.nilIface) ?_
 refine WL.nil (hK1 _ _ ?_)
 refine wp_seq_k fun K2 hK2 => ?_
 refine wp_seq_k fun K3 hK3 => rgn ?_
 refine VlS (.iface 100 (.agg #[.iface 69 (ptr q)])) ?_
 refine VlS (.tuple #[.agg #[.iface 69 (ptr q)], .bool true]) ?_
 refine VlS (.tuple #[.agg #[.iface 69 (ptr q)], .bool true]) ?_
 refine VlS (.agg #[.iface 69 (ptr q)]) ?_
 refine VlS (.bool true) ?_
 refine WL.new (by kernel_rfl) 100 rfl _ Tryz.new100 ?_
 have HX1 := Keep.mk (Blk.new w 100 #[.nilIface])
 have B1 := Keep.mk (below_new w (.cells #[.nilIface] 100))
 generalize w.alloc (.cells #[.nilIface] 100) = w1 at *
 simp only [Act.put, pqA, pqB, pqC]
 refine WL.storeR (by kernel_rfl) 100 (.tmp 3) (.tmp 8) rfl w.heap.size #[.iface 69 (ptr q)] rfl rfl 100 #[.nilIface] HX1.out Tryz.size100 rfl (by simp [Value.oneCell', ptr]) ?_
 have HX2 := Keep.mk (HX1.out.setRow #[.iface 69 (ptr q)])
 have B2 := Keep.mk (below_setRow B1.out (Nat.le_refl _) #[.iface 69 (ptr q)])
 generalize w1.setRow w.heap.size #[.iface 69 (ptr q)] = w2 at *
 have c0 := HX2.out.c 0 rfl
 simp only [Act.put]
 refine VlS (.bool true) ?_
 refine WL.nil (hK3 _ _ ?_)
 refine wp_seq_k fun K4 hK4 => rgn ?_
 refine VlS (.bool true) ?_
 refine WL.nil (hK4 _ _ ?_)
 refine wp_cond_true rfl ?_
 refine wp_seq_k fun K5 hK5 => rgn ?_
 refine VlS (.pointer (some ⟨w.heap.size, 0, none⟩)) ?_
 refine VlS (.iface 69 (ptr q)) ?_
 refine VlS (.iface 69 (ptr q)) ?_
 refine WL.nil (hK5 _ _ ?_)
 refine wp_ret ?_
 go_ret
 exact ⟨rfl, B2.out⟩
theorem catch_panicking (g2 g3 q : Nat) (old : Array Value) (w : World) (h2 : Blk w g2 28 old) (ho : old.size = 4) (h3 : Blk w g3 30 #[.nilIface]) :
  CallsD Tryz.prog 25 #[ptr g2, ptr g3] (.panicking [wr q]) w fun e u' w' => e = .returned (.tuple #[]) ∧ u' = .panicking [{ v := .iface 100 (.agg #[err q]), recovered := true }] ∧ Blk w' g2 28 (ndA 0 0 noS noS) ∧ Blk w' g3 30 #[err q] ∧ Grown w w' fun k => k = g2 ∨ k = g3 := by
 have H2 := Keep.mk h2
 have H3 := Keep.mk h3
 have Ho := Keep.mk ho
 have Hne : Keep (g2 ≠ g3) := ⟨blk_ne h2 h3 (by decide)⟩
 clear h2 h3 ho
 refine callsD_of_wpS Tryz.func25 rfl fun c₀ cs hu => ?_
 apply wpS_seq
 apply wpS_region
 unfold wr at hu
 simp [wpOpsS, go_sem, recoverD, hu, Tryz.ntmps25, Exit.thenS]
 apply wpS_seq
 apply wpS_region
 simp [wpOpsS, go_sem, Exit.thenS]
 refine wpS_cond (t := true) (by simp [Act.eval, Array.replicate]) ?_
 simp only [if_true]
 refine wpS_of_wp ?_
 refine rgn ?_
 simp only [Array.replicate_succ, Array.replicate_zero, List.push_toArray, List.append_toArray, List.nil_append, List.cons_append, List.setIfInBounds_toArray, List.set_cons_zero, List.set_cons_succ]
 refine WL.bld (by kernel_rfl) 28 _ rfl [] (by simp) _ nd_built0 ?_
 simp only [Act.put, pqA, pqB, pqC]
 refine VlS (.iface 100 (.agg #[err q])) ?_
 refine WL.callF (by kernel_rfl) 26 _ _ rfl Tryz.in26 #[.iface 100 (.agg #[err q])] (by simp [Act.eval]) ?_
 refine (caught_any q w).mono ?_
 rintro e w1 ⟨rfl, hb1⟩
 refine ⟨_, rfl, ?_⟩
 have B1 := Keep.mk hb1
 have H21 := Keep.mk (H2.out.below hb1 H2.out.lt)
 have H31 := Keep.mk (H3.out.below hb1 H3.out.lt)
 clear hb1
 simp only [Act.put, pqA, pqB, pqC]
 refine WL.storeR (by kernel_rfl) 28 (.tmp 0) (.tmp 6) rfl g2 (ndA 0 0 noS noS) rfl rfl 28 old H21.out (Tryz.size28B _ _ _ _) (by rw [Ho.out]; rfl) (nd_one 0 0 none 0 0 none 0 0) ?_
 have H22 := Keep.mk (H21.out.setRow (ndA 0 0 noS noS))
 have H32 := Keep.mk (H31.out.setRow_ne (b' := g2) (fun e => Hne.out e.symm) (ndA 0 0 noS noS))
 have G2 : Keep (Grown w (w1.setRow g2 (ndA 0 0 noS noS)) fun k => k = g2 ∨ k = g3) := ⟨(Grown.below B1.out).trans (Grown.setRow w1 g2 _ fun _ => .inl rfl)⟩
 generalize w1.setRow g2 (ndA 0 0 noS noS) = w2 at *
 simp only [Act.put]
 have c0 := H32.out.c 0 rfl
 have f0 := H32.out.frozen 0
 refine WL.cell (by kernel_rfl) (w2.setCell ⟨g3, 0, none⟩ (err q)) (by unfold err; go_simp) ?_
 have H33 := Keep.mk (H32.out.set 0 (err q))
 have H23 := Keep.mk (H22.out.set_ne (b' := g3) (j := 0) Hne.out (err q))
 have G3 : Keep (Grown w (w2.setCell ⟨g3, 0, none⟩ (err q)) fun k => k = g2 ∨ k = g3) := ⟨G2.out.trans (Grown.setCell w2 g3 0 _ fun _ => .inr rfl)⟩
 generalize w2.setCell ⟨g3, 0, none⟩ (err q) = w3 at *
 simp only [Act.put]
 refine WL.nil ?_
 exact ⟨rfl, _, rfl, _, results_none rfl _ _ _, rfl, rfl, H23.out, H33.out, G3.out⟩
theorem catch_idle (g2 g3 : Nat) (w : World) :
  CallsD Tryz.prog 25 #[ptr g2, ptr g3] .returning w fun e u' w' => e = .returned (.tuple #[]) ∧ u' = .returning ∧ w' = w := by
 refine callsD_of_wpS Tryz.func25 rfl fun c₀ cs hu => ?_
 apply wpS_seq
 apply wpS_region
 simp [wpOpsS, go_sem, recoverD, hu, Tryz.ntmps25, Exit.thenS]
 apply wpS_seq
 apply wpS_region
 simp [wpOpsS, go_sem, Exit.thenS]
 refine wpS_cond (t := false) (by simp [Act.eval, Array.replicate]) ?_
 simp only [Bool.false_eq_true, if_false]
 refine wpS_of_wp (wp_skip ?_)
 cases c₀
 simp_all [bodyPostS, results, Tryz.results25]
theorem load_err (w : World) (g : Nat) (x : Value) (h : Blk w g 30 #[x]) : (loadVar 30 ⟨g, 0, none⟩).run Tryz.prog w = .ok x w := by
 have c0 := h.c 0 rfl
 go_simp
theorem results_cells (tmps : Array Value) (w : World) (g g' : Nat) (cs : Array Value) (x : Value)
  (hp : tmps.getD 2 undef = .pointer (some ⟨g, 0, none⟩)) (hq : tmps.getD 3 undef = .pointer (some ⟨g', 0, none⟩)) (hg : Blk w g 28 cs) (hg' : Blk w g' 30 #[x]) (hi : cs.size = 4) :
  (results Tryz.f6 tmps).run Tryz.prog w = .ok (.tuple #[.agg cs, x]) w := by
 have hr := run_loadVar_row (P := Tryz.prog) w g 28 28 cs (0, 0) _ hg Tryz.underlying28 rfl (by rw [hi]; exact Tryz.size28)
 have hx := load_err w g' x hg'
 simp only [results, Tryz.results6]
 simp only [Array.getD_eq_getD_getElem?] at hp hq
 simp [Result.andThen, asAddr, hp, hq, hr, hx]
theorem below_of_grown {w w3 w4 w5 : World} {p g g3 : Nat} (h1 : Below w.heap.size w w3) (h2 : Grown w3 w4 fun k => k = p) (h3 : Grown w4 w5 fun k => k = g ∨ k = g3) (hp : w.heap.size ≤ p) (hg : w.heap.size ≤ g ∧ w.heap.size ≤ g3) : Below w.heap.size w w5 :=
 ⟨h3.os.trans (h2.os.trans h1.os), h3.tape.trans (h2.tape.trans h1.tape), h3.output.trans (h2.output.trans h1.output), Nat.le_trans h1.size (Nat.le_trans h2.size h3.size), fun k hk =>
  (h3.block k (Nat.lt_of_lt_of_le hk (Nat.le_trans h1.size h2.size)) (fun e => by rcases e with rfl | rfl <;> omega)).trans ((h2.block k (Nat.lt_of_lt_of_le hk h1.size) (fun e => by omega)).trans (h1.block k hk))⟩
def badR (l : List Int) : Int × Nat := if 1048576 < l.length then (4, 1048576) else ((decR l).1, (decR l).2.1)
def DecPost (l : List Int) (w : World) (e : Ending) (w' : World) : Prop :=
 (l.length ≤ 1048576 ∧ (decR l).1 = 0 ∧ ∃ vp vo, e = .returned (.tuple #[.agg (ndA (decR l).2.2.au (decR l).2.2.ck vp vo), .nilIface]) ∧ OwnH w' vp (decR l).2.2.ps ∧ OwnO w' vo (decR l).2.2.ops ∧ (∀ k, vp.ownBlock = some k → w.heap.size ≤ k) ∧ (∀ k, vo.ownBlock = some k → w.heap.size ≤ k) ∧ (∀ x ∈ (decR l).2.2.ops, OpOk x) ∧ (decR l).2.2.ops.length ≤ 1024 ∧ Below w.heap.size w w')
 ∨ ((1048576 < l.length ∨ (¬ 1048576 < l.length ∧ (decR l).1 ≠ 0)) ∧ ∃ q, w.heap.size ≤ q ∧ e = .returned (.tuple #[.agg (ndA 0 0 noS noS), err q]) ∧ BadAt w' q (badR l).1 (badR l).2 ∧ Below w.heap.size w w')
set_option maxRecDepth 8000 in
set_option maxHeartbeats 4000000 in
theorem decode_any (v : Value) (l : List Int) (w : World) (hr : RowAt w v l) (hB : Byts l) : Calls Tryz.prog 6 #[v] w (DecPost l w) := by
 obtain ⟨va, vc, rfl⟩ := row_form hr
 have HR := Keep.mk hr
 have hmf : ∀ (fn : Fn) (first cap : Array Value) (w : World), (Instr.makeFunc fn first cap).run Tryz.prog w = .ok (.func fn first cap) w := fun _ _ _ _ => rfl
 have Hlst : Keep (lst (strOfNums l) = l) := ⟨lst_nums hB⟩
 have HRl : Keep (1048576 < l.length → badR l = (4, 1048576)) := ⟨fun h => if_pos h⟩
 have HRs : Keep (¬ 1048576 < l.length → badR l = ((decR l).1, (decR l).2.1)) := ⟨fun h => if_neg h⟩
 have HSz : Keep ((strOfNums l).size = l.length) := ⟨str_size hB⟩
 clear hr hB
 go_enter_defers Tryz.func6, Tryz.ntmps6
 refine wp_seq_k fun K1 hK1 => rgn ?_
 refine WL.new (by kernel_rfl) 28 rfl _ Tryz.new28N ?_
 have HN1 := Keep.mk (Blk.new w 28 (ndA 0 0 noS noS))
 have B1 := Keep.mk (below_new w (.cells (ndA 0 0 noS noS) 28))
 generalize w.alloc (.cells (ndA 0 0 noS noS) 28) = w1 at *
 simp only [Act.put, pqA, pqB, pqC]
 refine WL.new (by kernel_rfl) 30 rfl _ Tryz.new30 ?_
 have HN2 := Keep.mk (HN1.out.alloc (.cells #[.nilIface] 30))
 have HE2 := Keep.mk (Blk.new w1 30 #[.nilIface])
 have B2 : Keep (Below w.heap.size w (w1.alloc (.cells #[.nilIface] 30))) := ⟨B1.out.trans ((below_new w1 _).mono B1.out.size)⟩
 have Hg : Keep (w.heap.size < w1.heap.size) := ⟨HN1.out.lt⟩
 generalize w1.alloc (.cells #[.nilIface] 30) = w2 at *
 generalize w1.heap.size = g3 at *
 simp only [Act.put, pqA, pqB, pqC]
 refine WL.nil (hK1 _ _ ?_)
 refine wp_seq_k fun K2 hK2 => ?_
 refine wp_seq_k fun K3 hK3 => rgn ?_
 refine VlS (.slice va l.length vc) ?_
 refine VlS (.int .i64 (l.length : Int)) ?_
 by_cases h1_2 : 1048576 < l.length
 ·have h1_2i : (1048576 : Int) < (l.length : Int) := by omega
  refine VlS (.bool true) ?_
  refine WL.nil (hK3 _ _ ?_)
  refine wp_cond_true rfl ?_
  refine wp_seq_k fun K4 hK4 => rgn ?_
  refine WL.bld (by kernel_rfl) 28 _ rfl [] (by simp) _ nd_built0 ?_
  simp only [Act.put, pqA, pqB, pqC]
  refine WL.bld (by kernel_rfl) 71 _ rfl [(0, .int .i64 4), (1, .int .i64 1048576)] (by simp [Act.eval]) _ (bad_built 4 1048576) ?_
  simp only [Act.put, pqA, pqB, pqC]
  refine WL.box (by kernel_rfl) 71 (.tmp 8) rfl _ rfl ?_
  have HBd : Keep (BadAt (w2.alloc (.cells #[.int .i64 4, .int .i64 1048576] 71)) w2.heap.size 4 1048576) := ⟨Blk.new w2 71 _⟩
  have HN3 := Keep.mk (HN2.out.alloc (.cells #[.int .i64 4, .int .i64 1048576] 71))
  have HE3 := Keep.mk (HE2.out.alloc (.cells #[.int .i64 4, .int .i64 1048576] 71))
  have B3 : Keep (Below w.heap.size w (w2.alloc (.cells #[.int .i64 4, .int .i64 1048576] 71))) := ⟨B2.out.trans ((below_new w2 _).mono B2.out.size)⟩
  have Hq : Keep (w.heap.size ≤ w2.heap.size) := ⟨B2.out.size⟩
  generalize w2.alloc (.cells #[.int .i64 4, .int .i64 1048576] 71) = w3 at *
  generalize w2.heap.size = q at *
  simp only [Act.put, pqA, pqB, pqC]
  refine VlS (.iface 69 (ptr q)) ?_
  refine WL.storeR (by kernel_rfl) 28 (.tmp 2) (.tmp 7) rfl w.heap.size (ndA 0 0 noS noS) rfl rfl 28 (ndA 0 0 noS noS) HN3.out (Tryz.size28B _ _ _ _) rfl (nd_one 0 0 none 0 0 none 0 0) ?_
  have HN4 := Keep.mk (HN3.out.setRow (ndA 0 0 noS noS))
  have HE4 := Keep.mk (HE3.out.setRow_ne (b' := w.heap.size) (by have := Hg.out; omega) (ndA 0 0 noS noS))
  have HB4 : Keep (BadAt (w3.setRow w.heap.size (ndA 0 0 noS noS)) q 4 1048576) := ⟨HBd.out.setRow_ne (blk_ne HBd.out HN3.out (by decide)) _⟩
  have B4 : Keep (Below w.heap.size w (w3.setRow w.heap.size (ndA 0 0 noS noS))) := ⟨below_setRow B3.out (Nat.le_refl _) _⟩
  generalize w3.setRow w.heap.size (ndA 0 0 noS noS) = w4 at *
  have c0 := HE4.out.c 0 rfl
  have f0 := HE4.out.frozen 0
  simp only [Act.put]
  refine WL.cell (by kernel_rfl) (w4.setCell ⟨g3, 0, none⟩ (.iface 69 (ptr q))) (by go_simp) ?_
  have HE5 := Keep.mk (HE4.out.set 0 (.iface 69 (ptr q)))
  have HN5 := Keep.mk (HN4.out.set_ne (b' := g3) (j := 0) (by have := Hg.out; omega) (.iface 69 (ptr q)))
  have HB5 : Keep (BadAt (w4.setCell ⟨g3, 0, none⟩ (.iface 69 (ptr q))) q 4 1048576) := ⟨HB4.out.set_ne (blk_ne HB4.out HE4.out (by decide)) _⟩
  have B5 : Keep (Below w.heap.size w (w4.setCell ⟨g3, 0, none⟩ (.iface 69 (ptr q)))) := ⟨B4.out.setCell (by show w.heap.size ≤ g3; have := Hg.out; omega) _⟩
  generalize w4.setCell ⟨g3, 0, none⟩ (.iface 69 (ptr q)) = w5 at *
  simp only [Act.put]
  refine WL.nil (hK4 _ _ ?_)
  refine wp_ret ?_
  try simp only [Exit.inBlock, Exit.then]
  refine ⟨.tuple #[.agg (ndA 0 0 noS noS), .iface 69 (ptr q)], results_cells _ _ w.heap.size g3 _ _ rfl rfl HN5.out HE5.out rfl, ?_⟩
  exact .inr ⟨.inl h1_2, q, Hq.out, rfl, by rw [HRl.out h1_2]; exact HB5.out, B5.out⟩
 ·have h1_2i : ¬ (1048576 : Int) < (l.length : Int) := by omega
  refine VlS (.bool false) ?_
  refine WL.nil (hK3 _ _ ?_)
  refine wp_cond_false rfl ?_
  refine wp_skip ?_
  refine hK2 _ _ ?_
  refine wp_seq_k fun K5 hK5 => ?_
  have HNl : Keep (¬ 1048576 < l.length) := ⟨h1_2⟩
  have HRn := Keep.mk (HRs.out h1_2)
  have HS : Keep ((strOfNums l).size ≤ 140737488355328) := ⟨by rw [HSz.out]; omega⟩
  refine rgn ?_
  refine VlS (.func (.func 25) #[] #[.pointer (some ⟨w.heap.size, 0, none⟩), .pointer (some ⟨g3, 0, none⟩)]) ?_
  refine WL.defer (by kernel_rfl) { target := .fn (.func 25) #[.pointer (some ⟨w.heap.size, 0, none⟩), .pointer (some ⟨g3, 0, none⟩)], args := #[] } (by go_simp) ?_
  simp only [Act.put]
  refine WL.nil (hK5 _ _ ?_)
  refine wp_seq_k fun K6 hK6 => rgn ?_
  refine VlS (.slice va l.length vc) ?_
  refine WL.callF (by kernel_rfl) 28 _ _ rfl Tryz.in28 #[.slice va l.length vc] (by simp [Act.eval]) ?_
  refine (newIn_any _ l w2 (HR.out.below B2.out)).mono ?_
  rintro e w4 ⟨rfl, hw4⟩
  refine ⟨_, rfl, ?_⟩
  rw [hw4]
  clear hw4 w4
  have HI3 : Keep (InAt (w2.alloc (.cells #[.string (strOfNums l), .int .i64 0, .pointer none] 117)) w2.heap.size (strOfNums l) 0 none) := ⟨Blk.new w2 117 _, Nat.zero_le _⟩
  have HN3 := Keep.mk (HN2.out.alloc (.cells #[.string (strOfNums l), .int .i64 0, .pointer none] 117))
  have HE3 := Keep.mk (HE2.out.alloc (.cells #[.string (strOfNums l), .int .i64 0, .pointer none] 117))
  have B3 : Keep (Below w.heap.size w (w2.alloc (.cells #[.string (strOfNums l), .int .i64 0, .pointer none] 117))) := ⟨B2.out.trans ((below_new w2 _).mono B2.out.size)⟩
  have Hp : Keep (g3 < w2.heap.size) := ⟨HE2.out.lt⟩
  generalize w2.alloc (.cells #[.string (strOfNums l), .int .i64 0, .pointer none] 117) = w3 at *
  generalize w2.heap.size = p at *
  simp only [Act.put, pqA, pqB, pqC]
  refine WL.callP (by kernel_rfl) 27 _ _ rfl Tryz.in27 #[ptr p] (by simp [Act.eval]) ?_
  refine (readBlock_any p (strOfNums l) w3 HI3.out HS.out).mono ?_
  rw [Hlst.out]
  rintro e w4 (⟨e1, vp, vo, rfl, h2, h3, h4, h5, h6, h7, h8⟩ | hgv)
  rotate_left
  ·have hne := hgv.1
   obtain ⟨q, hq, rfl, hbad, hgr⟩ := hgv.2
   refine .inr ⟨_, rfl, ?_⟩
   try simp only [Exit.inBlock, Exit.then]
   refine leaves_cons (f := 25) (args := #[ptr w.heap.size, ptr g3]) (by simp) (by simp [go_sem, ptr]) ?_
   refine (catch_panicking w.heap.size g3 q (ndA 0 0 noS noS) w4 (hgr.blk HN3.out (blk_ne HN3.out HI3.out.blk (by decide))) rfl (hgr.blk HE3.out (blk_ne HE3.out HI3.out.blk (by decide)))).mono ?_
   rintro e u' w5 ⟨rfl, rfl, i2, i3, i4⟩
   simp only [settle, List.dropWhile]
   refine ⟨.tuple #[.agg (ndA 0 0 noS noS), err q], results_cells _ _ w.heap.size g3 _ _ rfl rfl i2 i3 rfl, ?_⟩
   have hbl : Below w.heap.size w w5 := below_of_grown B3.out hgr i4 (by have := B3.out.size; have := Hp.out; have := Hg.out; omega) (by have := Hg.out; omega)
   refine .inr ⟨.inr ⟨HNl.out, hne⟩, q, Nat.le_trans B3.out.size hq, rfl, ?_, hbl⟩
   rw [HRn.out]
   exact i4.blk hbad (fun e => by rcases e with rfl | rfl; exact (blk_ne hbad (hgr.blk HN3.out (blk_ne HN3.out HI3.out.blk (by decide))) (by decide)) rfl; exact (blk_ne hbad (hgr.blk HE3.out (blk_ne HE3.out HI3.out.blk (by decide))) (by decide)) rfl)
  refine .inl ⟨_, rfl, ?_⟩
  have HE1 := Keep.mk e1
  have HN4 := Keep.mk (h8.blk HN3.out (blk_ne HN3.out HI3.out.blk (by decide)))
  have HE4 := Keep.mk (h8.blk HE3.out (blk_ne HE3.out HI3.out.blk (by decide)))
  have HO4 := Keep.mk h2
  have HQ4 := Keep.mk h3
  have HOn := Keep.mk h4
  have HQn := Keep.mk h5
  have Hok := Keep.mk h6
  have Hol := Keep.mk h7
  have HG4 := Keep.mk h8
  clear h2 h3 h4 h5 h6 h7 h8 e1
  obtain ⟨pa, pc, rfl⟩ := HO4.out.sl
  obtain ⟨qa, qc, rfl⟩ := HQ4.out.sl
  obtain ⟨N, hN⟩ : ∃ N, N = (decR l).2.2 := ⟨_, rfl⟩
  rw [← hN] at HO4 HQ4 Hok Hol ⊢
  have HNN := Keep.mk hN
  clear hN
  simp only [Act.put, pqA, pqB, pqC]
  refine WL.storeR (by kernel_rfl) 28 (.tmp 2) (.tmp 14) rfl w.heap.size (ndA N.au N.ck (.slice pa N.ps.length pc) (.slice qa N.ops.length qc)) rfl rfl 28 (ndA 0 0 noS noS) HN4.out (Tryz.size28B _ _ _ _) rfl (nd_one _ _ _ _ _ _ _ _) ?_
  have HN5 := Keep.mk (HN4.out.setRow (ndA N.au N.ck (.slice pa N.ps.length pc) (.slice qa N.ops.length qc)))
  have HE5 := Keep.mk (HE4.out.setRow_ne (b' := w.heap.size) (by have := Hg.out; omega) (ndA N.au N.ck (.slice pa N.ps.length pc) (.slice qa N.ops.length qc)))
  have Gs : Grown w4 (w4.setRow w.heap.size (ndA N.au N.ck (.slice pa N.ps.length pc) (.slice qa N.ops.length qc))) fun k => k = w.heap.size ∨ k = g3 := Grown.setRow w4 w.heap.size _ fun _ => .inl rfl
  have HO5 := Keep.mk (HO4.out.grown Gs (fun k hk e => by rcases e with rfl | rfl; exact HO4.out.ne HN4.out (by decide) hk; exact HO4.out.ne HE4.out (by decide) hk))
  have HQ5 := Keep.mk (HQ4.out.grown Gs (fun k hk e => by rcases e with rfl | rfl; exact HQ4.out.ne HN4.out (by decide) hk; exact HQ4.out.ne HE4.out (by decide) hk))
  have GG := Keep.mk Gs
  generalize w4.setRow w.heap.size (ndA N.au N.ck (.slice pa N.ps.length pc) (.slice qa N.ops.length qc)) = w5 at *
  have c0 := HE5.out.c 0 rfl
  have f0 := HE5.out.frozen 0
  clear Gs
  simp only [Act.put]
  refine WL.cell (by kernel_rfl) (w5.setCell ⟨g3, 0, none⟩ .nilIface) (by go_simp) ?_
  have HE6 := Keep.mk (HE5.out.set 0 .nilIface)
  have HN6 := Keep.mk (HN5.out.set_ne (b' := g3) (j := 0) (by have := Hg.out; omega) .nilIface)
  have Gs : Grown w5 (w5.setCell ⟨g3, 0, none⟩ .nilIface) fun k => k = w.heap.size ∨ k = g3 := Grown.setCell w5 g3 0 _ fun _ => .inr rfl
  have HO6 := Keep.mk (HO5.out.grown Gs (fun k hk e => by rcases e with rfl | rfl; exact HO5.out.ne HN5.out (by decide) hk; exact HO5.out.ne HE5.out (by decide) hk))
  have HQ6 := Keep.mk (HQ5.out.grown Gs (fun k hk e => by rcases e with rfl | rfl; exact HQ5.out.ne HN5.out (by decide) hk; exact HQ5.out.ne HE5.out (by decide) hk))
  have GG2 := Keep.mk (GG.out.trans Gs)
  generalize w5.setCell ⟨g3, 0, none⟩ .nilIface = w6 at *
  simp only [Act.put]
  refine WL.nil (hK6 _ _ ?_)
  refine wp_ret ?_
  try simp only [Exit.inBlock, Exit.then]
  refine leaves_cons (f := 25) (args := #[ptr w.heap.size, ptr g3]) (by simp) (by simp [go_sem, ptr]) ?_
  refine (catch_idle w.heap.size g3 _).mono ?_
  rintro e u' w7 ⟨rfl, rfl, rfl⟩
  simp only [settle]
  refine ⟨.tuple #[.agg (ndA N.au N.ck (.slice pa N.ps.length pc) (.slice qa N.ops.length qc)), .nilIface], results_cells _ _ w.heap.size g3 _ _ rfl rfl HN6.out HE6.out rfl, ?_⟩
  have hbl : Below w.heap.size w w7 := below_of_grown B3.out HG4.out GG2.out (by have := B3.out.size; have := Hp.out; have := Hg.out; omega) (by have := Hg.out; omega)
  exact .inl ⟨by omega, HE1.out, _, _, by rw [← HNN.out], by rw [← HNN.out]; exact HO6.out, by rw [← HNN.out]; exact HQ6.out, fun k hk => Nat.le_trans B3.out.size (HOn.out k hk), fun k hk => Nat.le_trans B3.out.size (HQn.out k hk), by rw [← HNN.out]; exact Hok.out, by rw [← HNN.out]; exact Hol.out, hbl⟩
end Go.Proofs.YtdeiicldfgkidaaGreat
namespace Go.Proofs.YtdeiicldfgkidaaGreat
open Go.RowKit
set_option linter.unusedSimpArgs false

def tl (x : OpV) : List Int := (if txt x.kind = true then bform (lst x.text) else []) ++ ((if x.kind = 6 then numL (zig x.n) else []) ++ (if hat x.kind = true then numL x.op.toNat ++ (if x.op = 0 then [] else hl 32 (hof x.node)) else []))
theorem oneF_eq (x : OpV) (h : hasI x.kind ≠ []) : oneF x = [x.kind] ++ (bform (lst x.key) ++ tl x) := by
 have hk := hasI_mem h
 simp only [List.mem_cons, List.not_mem_nil, or_false] at hk
 rcases hk with e | e | e | e | e | e | e | e | e <;> simp [oneF, tl, e, hasI, putF, txt, hat]
theorem bform_small (s : ByteArray) (h : s.size ≤ 65536) : (bform (lst s)).length ≤ 65546 := by
 unfold bform
 rw [List.length_append, lst_len]
 have := numL_len s.size
 omega
theorem one_small (x : OpV) (h1 : x.key.size ≤ 65536) (h2 : x.text.size ≤ 65536) (h : hasI x.kind ≠ []) : (oneF x).length ≤ 131200 := by
 rw [oneF_eq x h]
 unfold tl
 have a1 := bform_small x.key h1
 have a2 := bform_small x.text h2
 have a3 := numL_len (zig x.n)
 have a4 := numL_len x.op.toNat
 have a5 := hl_len 32 (hof x.node)
 simp only [List.length_append, List.length_cons, List.length_nil]
 split <;> split <;> split <;> (try split) <;> simp only [List.length_append, List.length_nil] at * <;> omega
theorem fm_small (l : List OpV) (h : ∀ x ∈ l, (oneF x).length ≤ 131200) : (l.flatMap oneF).length ≤ l.length * 131200 := by
 induction l with
 | nil => simp
 | cons x l ih =>
  rw [List.flatMap_cons, List.length_append, List.length_cons]
  have := h x (by simp)
  have := ih (fun y hy => h y (by simp [hy]))
  omega
theorem form_small (l : List OpV) (h : (chk l).1 = 0) : (formL l).length ≤ 134400000 := by
 obtain ⟨h1, h2⟩ := chk_ok h
 have h3 := fm_small l (fun x hx => by
  obtain ⟨i, hi⟩ := List.getElem?_of_mem hx
  have := wrongV_ok (h2 i x hi)
  exact one_small x this.2.1 this.2.2.1 this.1)
 unfold formL
 rw [List.length_append]
 have := numL_len l.length
 omega
end Go.Proofs.YtdeiicldfgkidaaGreat
