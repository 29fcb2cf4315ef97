import Derived.Test.YtennogmeeefopaaDoorA17
import Derived.Test.YtennogmeeefopaaDoorA03
import Derived.Test.YtennogmeeefopaaDoorA06
import Derived.Test.YtennogmeeefopaaDoorA02
import Derived.Deep.RegionHeld3
import Derived.Lib.Small
import Derived.Deep.MidRow
namespace Go.Proofs.YtennogmeeefopaaDoor
open Go.RowKit
set_option linter.unusedSimpArgs false
set_option linter.unusedVariables false

set_option maxRecDepth 8000 in
set_option maxHeartbeats 4000000 in
theorem does_keep (B x h d p j : Nat) (vA vk : Value) (kp : List Int) (nn : Int) (ba : Option Addr) (bl : List Int) (bc : Nat) (ka : Option Addr) (kl : List Int) (kc : Nat) (D : DV) (V : JV) (la : Bool) (sure : Nat) (all : List (List Int)) (N : Nat → Prop) (w : World) (hL : LF w B x h d p j vA D V la false sure all N) (hX : JX D V la sure) (hP : V.ps = all) (hK : IntsB w vk kp B) (hKs : IntsB w (.slice ka kl.length kc) kl B) (hR : RowB w (.slice ba bl.length bc) bl B) (hBy : Byts bl) (hn : nn ≤ 9223372036854775807) (hA : D.acts ≤ 4611686018427370000) : Calls Tryd.prog 11 #[ptr x, .agg #[.int .i64 3, .int .i64 nn, .slice ba bl.length bc, .slice ka kl.length kc], vk] w (DoPost B x h d p D w) := by
 obtain ⟨aa, ac, rfl⟩ := hL.ra.form
 obtain ⟨an, han⟩ : ∃ z, Keep (z = all.length) := ⟨_, ⟨rfl⟩⟩
 rw [← han.out] at hL
 have Hal : Keep (all.length ≤ 285216768) := ⟨by rw [← hP]; exact hX.ji.few.1⟩
 have HL := Keep.mk hL
 have HX := Keep.mk hX
 have HP := Keep.mk hP
 have HK := Keep.mk hK
 have HKs := Keep.mk hKs
 have HR := Keep.mk hR
 have HBy := Keep.mk hBy
 have Hn := Keep.mk hn
 have HA := Keep.mk hA
 have HNx : Keep (¬ N x ∧ ¬ N 0 ∧ ¬ N d) := ⟨fun e => (hL.nl x e).2.2.1 rfl, fun e => by have := (hL.nl 0 e).1; have := hL.pos; omega, fun e => (hL.nl d e).2.2.2.2 rfl⟩
 clear hL hX hP hK hKs hR hBy hn hA
 go_enter Tryd.func11, Tryd.ntmps11
 refine wp_seq_k fun K1 hK1 => rgn ?_
 refine WL.box (by kernel_rfl) 39 (.tmp 1) rfl #[.int .i64 3, .int .i64 nn, .slice ba bl.length bc, .slice ka kl.length kc] rfl ?_
 have hbx := below_new w (.cells #[.int .i64 3, .int .i64 nn, .slice ba bl.length bc, .slice ka kl.length kc] 39)
 have Q1 := Keep.mk (Blk.new w 39 #[.int .i64 3, .int .i64 nn, .slice ba bl.length bc, .slice ka kl.length kc])
 have L1 := Keep.mk (HL.out.below hbx)
 have I1 := Keep.mk (HK.out.grown (Grown.below (S := fun k => B ≤ k) hbx) fun _ h => h)
 have IB1 := Keep.mk (HKs.out.grown (Grown.below (S := fun k => B ≤ k) hbx) fun _ h => h)
 have R1 := Keep.mk (HR.out.grown (Grown.below (S := fun k => B ≤ k) hbx) fun _ h => h)
 have GB1 : Keep (Grown w (w.alloc (.cells #[.int .i64 3, .int .i64 nn, .slice ba bl.length bc, .slice ka kl.length kc] 39)) fun k => B ≤ k) := ⟨Grown.below hbx⟩
 clear hbx
 change WL _ _ _ _ _ (w.alloc (.cells #[.int .i64 3, .int .i64 nn, .slice ba bl.length bc, .slice ka kl.length kc] 39))
 generalize w.alloc (.cells #[.int .i64 3, .int .i64 nn, .slice ba bl.length bc, .slice ka kl.length kc] 39) = w1 at *
 obtain ⟨q, hq⟩ : ∃ q, Keep (q = w.heap.size) := ⟨_, ⟨rfl⟩⟩
 rw [← hq.out] at Q1 ⊢
 have HqN : Keep (¬ N q) := ⟨fun e => by have := (HL.out.nl q e).2.1; rw [hq.out] at this; omega⟩
 have c0 := Q1.out.c 0 (by rfl : (#[.int .i64 3, .int .i64 nn, .slice ba bl.length bc, .slice ka kl.length kc] : Array Value)[0]? = some (.int .i64 3))
 simp only [Act.put, pqA, pqB, pqC]
 refine VlS (.bool false) ?_
 refine WL.nil (hK1 _ _ ?_)
 refine wp_seq_k fun K2 hK2 => rgn ?_
 refine VlS (.int .i64 0) ?_
 refine WL.nil (hK2 _ _ ?_)
 refine wp_seq_k fun K3 hK3 => ?_
 refine wp_seq_k fun K4 hK4 => rgn ?_
 refine VlS (.pointer (some ⟨q, 0, none⟩)) ?_
 refine VlS (.int .i64 3) ?_
 refine WL.nil (hK4 _ _ ?_)
 refine wp_block ?_
 refine wp_seq_k fun K5 hK5 => rgn ?_
 refine VlS (.bool false) ?_
 refine VlS (.bool false) ?_
 refine WL.nil (hK5 _ _ ?_)
 refine wp_cond_false rfl ?_
 refine wp_seq_k fun K6 hK6 => rgn ?_
 refine VlS (.bool false) ?_
 refine VlS (.bool false) ?_
 refine WL.nil (hK6 _ _ ?_)
 refine wp_cond_false rfl ?_
 refine wp_seq_k fun K7 hK7 => rgn ?_
 refine VlS (.bool true) ?_
 refine VlS (.bool true) ?_
 refine WL.nil (hK7 _ _ ?_)
 refine wp_cond_true rfl ?_
 refine wp_seq_k fun K8 hK8 => ?_
 clear c0
 have L2 := Keep.mk L1.out.drew
 have Q0 : Keep (Blk w1.drew q 39 #[.int .i64 3, .int .i64 nn, .slice ba bl.length bc, .slice ka kl.length kc]) := ⟨Q1.out.drew⟩
 have G0 : Keep (Grown w w1.drew fun k => B ≤ k) := ⟨GB1.out.drew⟩
 have I0 := Keep.mk (I1.out.grown (Grown.refl w1 (fun k => B ≤ k)).drew fun _ h => h)
 clear Q1 GB1 I1 IB1 R1 L1
 have HS0 : Keep ((w1.drew).cell? ⟨x, 2, none⟩ = some (ptr j) ∧ (w1.drew).cell? ⟨q, 1, none⟩ = some (.int .i64 nn)) := ⟨⟨L2.out.bx.c 2 rfl, Q0.out.c 1 rfl⟩⟩
 refine wp_region_held_drew (S := fun wx => wx.cell? ⟨x, 2, none⟩ = some (ptr j) ∧ wx.cell? ⟨q, 1, none⟩ = some (.int .i64 nn)) (by kernel_rfl) (HS0.out) (fun hHeld => ?_)
 refine tkS (i := 0) (oi := ⟨some 55, Op.move (Operand.tmp 0), 34, _, _, none⟩) (v := .pointer (some ⟨x, 0, none⟩)) rfl (Or.inl ⟨by rfl, fun w hS => by obtain ⟨hS1, hS2⟩ := hS; go_simp⟩) hHeld ?_
 refine tkS (i := 1) (oi := ⟨some 56, Op.nilCheck (Operand.tmp 55), 0, _, _, none⟩) (v := .pointer (some ⟨x, 0, none⟩)) rfl (Or.inl ⟨by rfl, fun w hS => by obtain ⟨hS1, hS2⟩ := hS; go_simp⟩) hHeld ?_
 refine tkS (i := 2) (oi := ⟨some 57, Op.fieldAddr 36 (Operand.tmp 56) 2, 0, _, _, none⟩) (v := .pointer (some ⟨x, 2, none⟩)) rfl (Or.inl ⟨by rfl, fun w hS => by obtain ⟨hS1, hS2⟩ := hS; go_simp⟩) hHeld ?_
 refine tkS (i := 3) (oi := ⟨some 58, Op.load 22 (Operand.tmp 57), 22, _, _, none⟩) (v := .pointer (some ⟨j, 0, none⟩)) rfl (Or.inl ⟨by rfl, fun w hS => by obtain ⟨hS1, hS2⟩ := hS; go_simp⟩) hHeld ?_
 refine tkS (i := 4) (oi := ⟨some 59, Op.fieldAddr 39 (Operand.tmp 4) 1, 0, _, _, none⟩) (v := .pointer (some ⟨q, 1, none⟩)) rfl (Or.inl ⟨by rfl, fun w hS => by obtain ⟨hS1, hS2⟩ := hS; go_simp⟩) hHeld ?_
 refine tkS (i := 5) (oi := ⟨some 60, Op.load 3 (Operand.tmp 59), 3, _, _, none⟩) (v := .int .i64 nn) rfl (Or.inl ⟨by rfl, fun w hS => by obtain ⟨hS1, hS2⟩ := hS; go_simp⟩) hHeld ?_
 refine wpAnyH_ready (rs := [6]) (by kernel_rfl) (by simp) ?_
 refine AllReadyH.cons (o := ⟨some 61, Op.call { callee := Callee.value (Operand.func 10), args := #[Operand.tmp 58, Operand.tmp 60], argTypes := #[22, 3] }, 24, _, _, none⟩) rfl (fun K hK => ?_) AllReadyH.nil
 rw [if_pos (by rfl)]
 refine wp_callF 10 _ _ rfl Tryd.in10 #[ptr j, .int .i64 nn] (by simp [Act.eval]) (fun vz wz => ∃ (ee : Int) (D' : DV) (V' : JV) (de' : Bool), vz = .int .i64 ee ∧ JDN wz j d p D' V' la de' (JN2 N w1.drew.heap.size wz.heap.size) ∧ Grown w1.drew wz N ∧ (D.acts ≤ D'.acts ∧ D'.acts ≤ D.acts + 300) ∧ ((ee = 0 ∧ de' = false ∧ 0 ≤ nn ∧ nn ≤ (V.ps.length : Int) ∧ V'.ps = V.ps.take nn.toNat ∧ JX D' V' la (min sure nn.toNat)) ∨ (ee = 7 ∧ 0 ≤ nn ∧ nn ≤ (V.ps.length : Int) ∧ CR D' V.ps (min sure nn.toNat)) ∨ (ee = 2 ∧ (nn < 0 ∨ (V.ps.length : Int) < nn) ∧ de' = false ∧ V' = V ∧ JX D' V la sure))) ?_ ?_
 ·refine (keep_any j d p nn D V la sure N w1.drew L2.out.tab L2.out.jd (fun k hk => (L2.out.nl k hk).2.1) HNx.out.2.1 HNx.out.2.2 HX.out (by have := HA.out; omega)).mono ?_
  rintro e wz ⟨ee, D', V', de', rfl, h⟩
  exact ⟨_, rfl, ee, D', V', de', rfl, h⟩
 rintro vz w5 ⟨ee, D5, V5, de5, rfl, h1, h2, h3, h4⟩
 have L5 := Keep.mk (L2.out.step h1 h2)
 have Q5 : Keep (Blk w5 q 39 #[.int .i64 3, .int .i64 nn, .slice ba bl.length bc, .slice ka kl.length kc]) := ⟨h2.blk Q0.out HqN.out⟩
 have hgB : Grown w1.drew w5 fun k => B ≤ k := h2.mono fun k _ e => (HL.out.nl k e).1
 have G5 : Keep (Grown w w5 fun k => B ≤ k) := ⟨G0.out.trans hgB⟩
 have I5 := Keep.mk (I0.out.grown hgB fun _ h => h)
 have HAc := Keep.mk h3
 have H4 := Keep.mk h4
 clear h1 h2 h3 h4 hgB
 obtain ⟨N5, hN5⟩ : ∃ z, Keep (z = JN2 N w1.drew.heap.size w5.heap.size) := ⟨_, ⟨rfl⟩⟩
 rw [← hN5.out] at L5
 refine hK _ _ (⟨L5.out.bx.c 2 rfl, Q5.out.c 1 rfl⟩) fun hH5 => ?_
 clear hK
 simp only [Act.put, pqA, pqB, pqC]
 refine tkS (i := 7) (oi := ⟨some 7, Op.assign (Operand.tmp 61), 24, _, _, none⟩) (v := .int .i64 ee) rfl (Or.inl ⟨by rfl, fun w hS => by obtain ⟨hS1, hS2⟩ := hS; go_simp⟩) hH5 ?_
 refine wpAnyH_done (by kernel_rfl) ?_ _
 refine hK8 _ _ ?_
 refine wp_seq_k fun K9 hK9 => ?_
 refine wp_seq_k fun K10 hK10 => ?_
 have L6 := Keep.mk L5.out.drew
 have Q6 : Keep (Blk w5.drew q 39 #[.int .i64 3, .int .i64 nn, .slice ba bl.length bc, .slice ka kl.length kc]) := ⟨Q5.out.drew⟩
 have G6 : Keep (Grown w w5.drew fun k => B ≤ k) := ⟨G5.out.drew⟩
 have I6 := Keep.mk (I5.out.grown (Grown.refl w5 (fun k => B ≤ k)).drew fun _ h => h)
 clear L5 Q5 G5 I5 L2 Q0 G0 I0 HS0
 rcases H4.out with ⟨rfl, rfl, hn0, hnl, hps, hjx⟩ | ⟨rfl, hn0, hnl, hcr⟩ | ⟨rfl, hn0, rfl, rfl, hjx⟩
 ·obtain ⟨nk, hnk⟩ : ∃ nk : Nat, nn = (nk : Int) := ⟨nn.toNat, by omega⟩
  subst hnk
  rw [Int.toNat_natCast] at hps hjx
  have HKl : Keep (nk ≤ all.length) := ⟨by rw [← HP.out]; omega⟩
  have PS5 : Keep (V5.ps = all.take nk) := ⟨by rw [hps, HP.out]⟩
  have JX5 := Keep.mk hjx
  clear hn0 hnl hps hjx H4
  have hge : ¬ (nk : Int) < 0 := by omega
  rcases Decidable.em ((nk : Int) < (sure : Int)) with hns | hns
  ·have HS0 : Keep ((w5.drew).cell? ⟨q, 1, none⟩ = some (.int .i64 (nk : Int)) ∧ (w5.drew).cell? ⟨x, 4, none⟩ = some (.int .i64 (sure : Int))) := ⟨⟨Q6.out.c 1 rfl, L6.out.bx.c 4 rfl⟩⟩
   refine wp_region_held_drew (S := fun wx => wx.cell? ⟨q, 1, none⟩ = some (.int .i64 (nk : Int)) ∧ wx.cell? ⟨x, 4, none⟩ = some (.int .i64 (sure : Int))) (by kernel_rfl) HS0.out (fun hHeld => ?_)
   clear HS0
   generalize w5.drew = w6 at *
   refine tkS (i := 0) (oi := ⟨some 62, Op.move (Operand.tmp 7), 24, _, _, none⟩) (v := .int .i64 0) rfl (Or.inl ⟨by rfl, fun w hS => by obtain ⟨hS1, hS2⟩ := hS; go_simp⟩) hHeld ?_
   refine tkS (i := 1) (oi := ⟨some 63, Op.binOp BinOp.eql 24 (Operand.tmp 62) (Operand.const (Value.int IntKind.i64 0)) 24, 4, _, _, none⟩) (v := .bool true) rfl (Or.inl ⟨by rfl, fun w hS => by obtain ⟨hS1, hS2⟩ := hS; go_simp⟩) hHeld ?_
   refine tkS (i := 2) (oi := ⟨some 64, Op.move (Operand.tmp 63), 4, _, _, none⟩) (v := .bool true) rfl (Or.inl ⟨by rfl, fun w hS => by obtain ⟨hS1, hS2⟩ := hS; go_simp⟩) hHeld ?_
   refine tkS (i := 3) (oi := ⟨some 65, Op.move (Operand.tmp 7), 24, _, _, some (2, false)⟩) (v := undef) rfl (Or.inr ⟨by rfl, rfl⟩) hHeld ?_
   refine tkS (i := 4) (oi := ⟨some 66, Op.binOp BinOp.eql 24 (Operand.tmp 65) (Operand.const (Value.int IntKind.i64 7)) 24, 4, _, _, some (2, false)⟩) (v := undef) rfl (Or.inr ⟨by rfl, rfl⟩) hHeld ?_
   refine tkS (i := 5) (oi := ⟨some 67, Op.pick (Operand.tmp 64) (Operand.const (Value.bool true)) (Operand.tmp 66), 4, _, _, none⟩) (v := .bool true) rfl (Or.inl ⟨by rfl, fun w hS => by obtain ⟨hS1, hS2⟩ := hS; go_simp⟩) hHeld ?_
   refine tkS (i := 6) (oi := ⟨some 68, Op.move (Operand.tmp 67), 4, _, _, none⟩) (v := .bool true) rfl (Or.inl ⟨by rfl, fun w hS => by obtain ⟨hS1, hS2⟩ := hS; go_simp⟩) hHeld ?_
   refine tkS (i := 7) (oi := ⟨some 69, Op.fieldAddr 39 (Operand.tmp 4) 1, 0, _, _, some (6, true)⟩) (v := .pointer (some ⟨q, 1, none⟩)) rfl (Or.inl ⟨by rfl, fun w hS => by obtain ⟨hS1, hS2⟩ := hS; go_simp⟩) hHeld ?_
   refine tkS (i := 8) (oi := ⟨some 70, Op.load 3 (Operand.tmp 69), 3, _, _, some (6, true)⟩) (v := .int .i64 (nk : Int)) rfl (Or.inl ⟨by rfl, fun w hS => by obtain ⟨hS1, hS2⟩ := hS; go_simp⟩) hHeld ?_
   refine tkS (i := 9) (oi := ⟨some 71, Op.binOp BinOp.geq 3 (Operand.tmp 70) (Operand.const (Value.int IntKind.i64 0)) 3, 4, _, _, some (6, true)⟩) (v := .bool true) rfl (Or.inl ⟨by rfl, fun w hS => by obtain ⟨hS1, hS2⟩ := hS; go_simp⟩) hHeld ?_
   refine tkS (i := 10) (oi := ⟨some 72, Op.pick (Operand.tmp 68) (Operand.tmp 71) (Operand.const (Value.bool false)), 4, _, _, none⟩) (v := .bool true) rfl (Or.inl ⟨by rfl, fun w hS => by obtain ⟨hS1, hS2⟩ := hS; go_simp⟩) hHeld ?_
   refine tkS (i := 11) (oi := ⟨some 73, Op.move (Operand.tmp 72), 4, _, _, none⟩) (v := .bool true) rfl (Or.inl ⟨by rfl, fun w hS => by obtain ⟨hS1, hS2⟩ := hS; go_simp⟩) hHeld ?_
   refine tkS (i := 12) (oi := ⟨some 74, Op.fieldAddr 39 (Operand.tmp 4) 1, 0, _, _, some (11, true)⟩) (v := .pointer (some ⟨q, 1, none⟩)) rfl (Or.inl ⟨by rfl, fun w hS => by obtain ⟨hS1, hS2⟩ := hS; go_simp⟩) hHeld ?_
   refine tkS (i := 13) (oi := ⟨some 75, Op.load 3 (Operand.tmp 74), 3, _, _, some (11, true)⟩) (v := .int .i64 (nk : Int)) rfl (Or.inl ⟨by rfl, fun w hS => by obtain ⟨hS1, hS2⟩ := hS; go_simp⟩) hHeld ?_
   refine tkS (i := 14) (oi := ⟨some 76, Op.move (Operand.tmp 0), 34, _, _, some (11, true)⟩) (v := .pointer (some ⟨x, 0, none⟩)) rfl (Or.inl ⟨by rfl, fun w hS => by obtain ⟨hS1, hS2⟩ := hS; go_simp⟩) hHeld ?_
   refine tkS (i := 15) (oi := ⟨some 77, Op.nilCheck (Operand.tmp 76), 0, _, _, some (11, true)⟩) (v := .pointer (some ⟨x, 0, none⟩)) rfl (Or.inl ⟨by rfl, fun w hS => by obtain ⟨hS1, hS2⟩ := hS; go_simp⟩) hHeld ?_
   refine tkS (i := 16) (oi := ⟨some 78, Op.fieldAddr 36 (Operand.tmp 77) 4, 0, _, _, some (11, true)⟩) (v := .pointer (some ⟨x, 4, none⟩)) rfl (Or.inl ⟨by rfl, fun w hS => by obtain ⟨hS1, hS2⟩ := hS; go_simp⟩) hHeld ?_
   refine tkS (i := 17) (oi := ⟨some 79, Op.load 3 (Operand.tmp 78), 3, _, _, some (11, true)⟩) (v := .int .i64 (sure : Int)) rfl (Or.inl ⟨by rfl, fun w hS => by obtain ⟨hS1, hS2⟩ := hS; go_simp⟩) hHeld ?_
   refine tkS (i := 18) (oi := ⟨some 80, Op.binOp BinOp.lss 3 (Operand.tmp 75) (Operand.tmp 79) 3, 4, _, _, some (11, true)⟩) (v := .bool true) rfl (Or.inl ⟨by rfl, fun w hS => by obtain ⟨hS1, hS2⟩ := hS; go_simp⟩) hHeld ?_
   refine tkS (i := 19) (oi := ⟨some 81, Op.pick (Operand.tmp 73) (Operand.tmp 80) (Operand.const (Value.bool false)), 4, _, _, none⟩) (v := .bool true) rfl (Or.inl ⟨by rfl, fun w hS => by obtain ⟨hS1, hS2⟩ := hS; go_simp⟩) hHeld ?_
   refine wpAnyH_done (by kernel_rfl) ?_ _
   refine hK10 _ _ ?_
   refine wp_cond_true rfl ?_
   have c1 := Q6.out.c 1 (by rfl : (#[.int .i64 3, .int .i64 (nk : Int), .slice ba bl.length bc, .slice ka kl.length kc] : Array Value)[1]? = some (.int .i64 (nk : Int)))
   refine rgn ?_
   refine VlS (.pointer (some ⟨x, 0, none⟩)) ?_
   refine VlS (.pointer (some ⟨q, 1, none⟩)) ?_
   refine VlS (.int .i64 (nk : Int)) ?_
   refine VlS (.pointer (some ⟨x, 0, none⟩)) ?_
   refine VlS (.pointer (some ⟨x, 4, none⟩)) ?_
   clear c1
   have f_o := L6.out.bx.frozen 4
   have cl : w6.cell? ⟨x, 4, none⟩ = some (.int .i64 (sure : Int)) := L6.out.bx.c 4 rfl
   refine WL.cell (by kernel_rfl) (w6.setCell ⟨x, 4, none⟩ (.int .i64 (nk : Int))) (by go_simp) ?_
   clear f_o cl
   have hgs : Grown w6 (w6.setCell ⟨x, 4, none⟩ (.int .i64 (nk : Int))) fun k => k = x := Grown.setCell w6 x 4 _ fun _ => rfl
   have hxB : ∀ k, k = x → B ≤ k := fun k e => by rw [e]; exact L6.out.xl
   have L7 := Keep.mk (L6.out.setx hgs (vA' := .slice aa an ac) (sure' := nk) (all' := all) (L6.out.bx.set 4 (.int .i64 (nk : Int))) L6.out.ra rfl)
   have Q7 : Keep (Blk (w6.setCell ⟨x, 4, none⟩ (.int .i64 (nk : Int))) q 39 #[.int .i64 3, .int .i64 (nk : Int), .slice ba bl.length bc, .slice ka kl.length kc]) := ⟨hgs.blk Q6.out fun e => by have h1 := Q6.out.typ; rw [e] at h1; have := h1.one L6.out.bx.typ; revert this; decide⟩
   have G7 : Keep (Grown w (w6.setCell ⟨x, 4, none⟩ (.int .i64 (nk : Int))) fun k => B ≤ k) := ⟨G6.out.trans (hgs.mono fun k _ e => hxB k e)⟩
   have I7 := Keep.mk (I6.out.grown hgs hxB)
   clear hgs hxB L6 Q6 G6 I6
   generalize (w6.setCell ⟨x, 4, none⟩ (.int .i64 (nk : Int))) = w7 at *
   simp only [Act.put]
   refine WL.nil (hK9 _ _ ?_)
   refine wp_seq_k fun K11 hK11 => rgn ?_
   refine VlS (.int .i64 0) ?_
   refine VlS (.bool true) ?_
   refine WL.nil (hK11 _ _ ?_)
   refine wp_cond_true rfl ?_
   have L8 := Keep.mk L7.out.drew
   have Q8 : Keep (Blk w7.drew q 39 #[.int .i64 3, .int .i64 (nk : Int), .slice ba bl.length bc, .slice ka kl.length kc]) := ⟨Q7.out.drew⟩
   have G8 : Keep (Grown w w7.drew fun k => B ≤ k) := ⟨G7.out.drew⟩
   have I8 := Keep.mk (I7.out.grown (Grown.refl w7 (fun k => B ≤ k)).drew fun _ h => h)
   clear L7 Q7 G7 I7
   refine wp_region_held_drew (S := fun wx => Blk wx q 39 #[.int .i64 3, .int .i64 (nk : Int), .slice ba bl.length bc, .slice ka kl.length kc]) (by kernel_rfl) Q8.out (fun hHeld => ?_)
   generalize w7.drew = w8 at *
   have JX8 : Keep (JX D5 V5 la nk) := ⟨by have h := JX5.out; rw [Nat.min_eq_right (by omega)] at h; exact h⟩
   refine tkS (i := 0) (oi := ⟨some 89, Op.move (Operand.tmp 0), 34, _, _, none⟩) (v := .pointer (some ⟨x, 0, none⟩)) rfl (Or.inl ⟨by rfl, fun w hS => by have q1 := hS.c 1 (by rfl : (#[.int .i64 3, .int .i64 (nk : Int), .slice ba bl.length bc, .slice ka kl.length kc] : Array Value)[1]? = some (.int .i64 (nk : Int))); clear hS; go_simp⟩) hHeld ?_
   refine tkS (i := 1) (oi := ⟨some 90, Op.move (Operand.tmp 0), 34, _, _, none⟩) (v := .pointer (some ⟨x, 0, none⟩)) rfl (Or.inl ⟨by rfl, fun w hS => by have q1 := hS.c 1 (by rfl : (#[.int .i64 3, .int .i64 (nk : Int), .slice ba bl.length bc, .slice ka kl.length kc] : Array Value)[1]? = some (.int .i64 (nk : Int))); clear hS; go_simp⟩) hHeld ?_
   refine tkS (i := 2) (oi := ⟨some 91, Op.nilCheck (Operand.tmp 90), 0, _, _, none⟩) (v := .pointer (some ⟨x, 0, none⟩)) rfl (Or.inl ⟨by rfl, fun w hS => by have q1 := hS.c 1 (by rfl : (#[.int .i64 3, .int .i64 (nk : Int), .slice ba bl.length bc, .slice ka kl.length kc] : Array Value)[1]? = some (.int .i64 (nk : Int))); clear hS; go_simp⟩) hHeld ?_
   refine tkS (i := 3) (oi := ⟨some 92, Op.fieldAddr 36 (Operand.tmp 91) 3, 0, _, _, none⟩) (v := .pointer (some ⟨x, 3, none⟩)) rfl (Or.inl ⟨by rfl, fun w hS => by have q1 := hS.c 1 (by rfl : (#[.int .i64 3, .int .i64 (nk : Int), .slice ba bl.length bc, .slice ka kl.length kc] : Array Value)[1]? = some (.int .i64 (nk : Int))); clear hS; go_simp⟩) hHeld ?_
   refine tkS (i := 5) (oi := ⟨some 94, Op.fieldAddr 39 (Operand.tmp 4) 1, 0, _, _, none⟩) (v := .pointer (some ⟨q, 1, none⟩)) rfl (Or.inl ⟨by rfl, fun w hS => by have q1 := hS.c 1 (by rfl : (#[.int .i64 3, .int .i64 (nk : Int), .slice ba bl.length bc, .slice ka kl.length kc] : Array Value)[1]? = some (.int .i64 (nk : Int))); clear hS; go_simp⟩) hHeld ?_
   refine tkS (i := 6) (oi := ⟨some 95, Op.load 3 (Operand.tmp 94), 3, _, _, none⟩) (v := .int .i64 (nk : Int)) rfl (Or.inl ⟨by rfl, fun w hS => by have q1 := hS.c 1 (by rfl : (#[.int .i64 3, .int .i64 (nk : Int), .slice ba bl.length bc, .slice ka kl.length kc] : Array Value)[1]? = some (.int .i64 (nk : Int))); clear hS; go_simp⟩) hHeld ?_
   refine tkS (i := 7) (oi := ⟨some 96, Op.fieldAddr 39 (Operand.tmp 4) 1, 0, _, _, none⟩) (v := .pointer (some ⟨q, 1, none⟩)) rfl (Or.inl ⟨by rfl, fun w hS => by have q1 := hS.c 1 (by rfl : (#[.int .i64 3, .int .i64 (nk : Int), .slice ba bl.length bc, .slice ka kl.length kc] : Array Value)[1]? = some (.int .i64 (nk : Int))); clear hS; go_simp⟩) hHeld ?_
   refine tkS (i := 8) (oi := ⟨some 97, Op.load 3 (Operand.tmp 96), 3, _, _, none⟩) (v := .int .i64 (nk : Int)) rfl (Or.inl ⟨by rfl, fun w hS => by have q1 := hS.c 1 (by rfl : (#[.int .i64 3, .int .i64 (nk : Int), .slice ba bl.length bc, .slice ka kl.length kc] : Array Value)[1]? = some (.int .i64 (nk : Int))); clear hS; go_simp⟩) hHeld ?_
   refine wpAnyH_ready (rs := [4]) (by kernel_rfl) (by simp) ?_
   refine AllReadyH.cons (o := ⟨some 93, Op.load 23 (Operand.tmp 92), 23, _, _, none⟩) rfl (fun K hK => ?_) AllReadyH.nil
   rw [if_pos (by rfl)]
   have cl : w8.cell? ⟨x, 3, none⟩ = some (.slice aa an ac) := L8.out.bx.c 3 rfl
   refine wp_val (.slice aa an ac) (by go_simp) ?_
   clear cl
   refine hK _ _ (Q8.out) fun hL8 => ?_
   clear hK
   simp only [Act.put, pqA, pqB, pqC]
   refine tkS (i := 9) (oi := ⟨some 98, Op.slice 23 (Operand.tmp 93) none (some (Operand.tmp 95)) (some (Operand.tmp 97)), 23, _, _, none⟩) (v := .slice aa nk nk) rfl (yieldsIf_slice3 (by rfl) 23 (.tmp 93) (.tmp 95) (.tmp 97) rfl (.slice aa an ac) (.int .i64 (nk : Int)) (.int .i64 (nk : Int)) (.slice aa nk nk) rfl rfl rfl (sl_run3 aa an ac nk (L8.out.ra.take nk HKl.out).2)) hL8 ?_
   refine tkS (i := 10) (oi := ⟨some 99, Op.nilCheck (Operand.tmp 89), 0, _, _, none⟩) (v := .pointer (some ⟨x, 0, none⟩)) rfl (Or.inl ⟨by rfl, fun w hS => by have q1 := hS.c 1 (by rfl : (#[.int .i64 3, .int .i64 (nk : Int), .slice ba bl.length bc, .slice ka kl.length kc] : Array Value)[1]? = some (.int .i64 (nk : Int))); clear hS; go_simp⟩) hL8 ?_
   refine tkS (i := 11) (oi := ⟨some 100, Op.fieldAddr 36 (Operand.tmp 99) 3, 0, _, _, none⟩) (v := .pointer (some ⟨x, 3, none⟩)) rfl (Or.inl ⟨by rfl, fun w hS => by have q1 := hS.c 1 (by rfl : (#[.int .i64 3, .int .i64 (nk : Int), .slice ba bl.length bc, .slice ka kl.length kc] : Array Value)[1]? = some (.int .i64 (nk : Int))); clear hS; go_simp⟩) hL8 ?_
   refine wpAnyH_ready (rs := [12]) (by kernel_rfl) (by simp) ?_
   refine AllReadyH.cons (o := ⟨none, Op.store 23 (Operand.tmp 100) (Operand.tmp 98), 0, _, _, none⟩) rfl (fun K hK => ?_) AllReadyH.nil
   rw [if_pos (by rfl)]
   have f_o := L8.out.bx.frozen 3
   have cl : w8.cell? ⟨x, 3, none⟩ = some (.slice aa an ac) := L8.out.bx.c 3 rfl
   refine wp_cellS (w8.setCell ⟨x, 3, none⟩ (.slice aa nk nk)) (by go_simp) ?_
   clear f_o cl
   have hgs : Grown w8 (w8.setCell ⟨x, 3, none⟩ (.slice aa nk nk)) fun k => k = x := Grown.setCell w8 x 3 _ fun _ => rfl
   have hxB : ∀ k, k = x → B ≤ k := fun k e => by rw [e]; exact L8.out.xl
   have L9 := Keep.mk (L8.out.setx hgs (vA' := .slice aa nk nk) (sure' := nk) (all' := all.take nk) (L8.out.bx.set 3 (.slice aa nk nk)) (L8.out.ra.take nk HKl.out).1 (by cases aa <;> rfl))
   have Q9 : Keep (Blk (w8.setCell ⟨x, 3, none⟩ (.slice aa nk nk)) q 39 #[.int .i64 3, .int .i64 (nk : Int), .slice ba bl.length bc, .slice ka kl.length kc]) := ⟨hgs.blk Q8.out fun e => by have h1 := Q8.out.typ; rw [e] at h1; have := h1.one L8.out.bx.typ; revert this; decide⟩
   have G9 : Keep (Grown w (w8.setCell ⟨x, 3, none⟩ (.slice aa nk nk)) fun k => B ≤ k) := ⟨G8.out.trans (hgs.mono fun k _ e => hxB k e)⟩
   have I9 := Keep.mk (I8.out.grown hgs hxB)
   clear hgs hxB L8 Q8 G8 I8
   generalize (w8.setCell ⟨x, 3, none⟩ (.slice aa nk nk)) = w9 at *
   have HN9 : Keep (nk = (all.take nk).length) := ⟨by rw [List.length_take, Nat.min_eq_left HKl.out]⟩
   refine hK _ _ (Q9.out) fun hS9 => ?_
   clear hK
   simp only [Act.put, pqA, pqB, pqC]
   refine wpAnyH_done (by kernel_rfl) ?_ _
   refine hK3 _ _ ?_
   refine wp_seq_k fun K12 hK12 => ?_
   refine wp_seq_k fun K13 hK13 => rgn ?_
   refine VlS (.int .i64 0) ?_
   refine VlS (.bool false) ?_
   refine WL.nil (hK13 _ _ ?_)
   refine wp_cond_false rfl ?_
   refine wp_skip ?_
   refine hK12 _ _ ?_
   refine wp_seq_k fun K14 hK14 => ?_
   obtain ⟨pa_, pc_, cj⟩ := L9.out.lenj JX8.out PS5.out
   rw [← HN9.out] at cj
   have HS0 : Keep ((w9.drew).cell? ⟨x, 2, none⟩ = some (ptr j) ∧ (w9.drew).cell? ⟨x, 3, none⟩ = some (.slice aa nk nk) ∧ (w9.drew).cell? ⟨j, 1, none⟩ = some (.slice pa_ nk pc_)) := ⟨⟨L9.out.bx.drew.c 2 rfl, L9.out.bx.drew.c 3 rfl, cj⟩⟩
   clear cj
   refine wp_region_held_drew (S := fun wx => wx.cell? ⟨x, 2, none⟩ = some (ptr j) ∧ wx.cell? ⟨x, 3, none⟩ = some (.slice aa nk nk) ∧ wx.cell? ⟨j, 1, none⟩ = some (.slice pa_ nk pc_)) (by kernel_rfl) (HS0.out) (fun hHeld => ?_)
   refine tkS (i := 0) (oi := ⟨some 121, Op.move (Operand.tmp 0), 34, _, _, none⟩) (v := .pointer (some ⟨x, 0, none⟩)) rfl (Or.inl ⟨by rfl, fun w hS => by obtain ⟨hS1, hS2, hS3⟩ := hS; go_simp⟩) hHeld ?_
   refine tkS (i := 1) (oi := ⟨some 122, Op.nilCheck (Operand.tmp 121), 0, _, _, none⟩) (v := .pointer (some ⟨x, 0, none⟩)) rfl (Or.inl ⟨by rfl, fun w hS => by obtain ⟨hS1, hS2, hS3⟩ := hS; go_simp⟩) hHeld ?_
   refine tkS (i := 2) (oi := ⟨some 123, Op.fieldAddr 36 (Operand.tmp 122) 2, 0, _, _, none⟩) (v := .pointer (some ⟨x, 2, none⟩)) rfl (Or.inl ⟨by rfl, fun w hS => by obtain ⟨hS1, hS2, hS3⟩ := hS; go_simp⟩) hHeld ?_
   refine tkS (i := 3) (oi := ⟨some 124, Op.load 22 (Operand.tmp 123), 22, _, _, none⟩) (v := .pointer (some ⟨j, 0, none⟩)) rfl (Or.inl ⟨by rfl, fun w hS => by obtain ⟨hS1, hS2, hS3⟩ := hS; go_simp⟩) hHeld ?_
   refine tkS (i := 5) (oi := ⟨some 126, Op.move (Operand.tmp 0), 34, _, _, none⟩) (v := .pointer (some ⟨x, 0, none⟩)) rfl (Or.inl ⟨by rfl, fun w hS => by obtain ⟨hS1, hS2, hS3⟩ := hS; go_simp⟩) hHeld ?_
   refine tkS (i := 6) (oi := ⟨some 127, Op.nilCheck (Operand.tmp 126), 0, _, _, none⟩) (v := .pointer (some ⟨x, 0, none⟩)) rfl (Or.inl ⟨by rfl, fun w hS => by obtain ⟨hS1, hS2, hS3⟩ := hS; go_simp⟩) hHeld ?_
   refine tkS (i := 7) (oi := ⟨some 128, Op.fieldAddr 36 (Operand.tmp 127) 3, 0, _, _, none⟩) (v := .pointer (some ⟨x, 3, none⟩)) rfl (Or.inl ⟨by rfl, fun w hS => by obtain ⟨hS1, hS2, hS3⟩ := hS; go_simp⟩) hHeld ?_
   refine tkS (i := 8) (oi := ⟨some 129, Op.load 23 (Operand.tmp 128), 23, _, _, none⟩) (v := .slice aa nk nk) rfl (Or.inl ⟨by rfl, fun w hS => by obtain ⟨hS1, hS2, hS3⟩ := hS; go_simp⟩) hHeld ?_
   refine tkS (i := 9) (oi := ⟨some 130, Op.call { callee := Callee.builtin Builtin.len, args := #[Operand.tmp 129], argTypes := #[23] }, 3, _, _, none⟩) (v := .int .i64 (nk : Int)) rfl (Or.inl ⟨by rfl, fun w hS => by obtain ⟨hS1, hS2, hS3⟩ := hS; go_simp⟩) hHeld ?_
   refine wpAnyH_ready (rs := [4]) (by kernel_rfl) (by simp) ?_
   refine AllReadyH.cons (o := ⟨some 125, Op.call { callee := Callee.value (Operand.func 26), args := #[Operand.tmp 124], argTypes := #[22] }, 3, _, _, none⟩) rfl (fun K hK => ?_) AllReadyH.nil
   rw [if_pos (by rfl)]
   refine wp_callF 26 _ _ rfl Tryd.in26 #[ptr j] (by simp [Act.eval]) (fun vz wz => vz = .int .i64 (nk : Int) ∧ wz = w9.drew) ?_ ?_
   ·refine (len_any j pa_ nk pc_ w9.drew HS0.out.2.2).mono ?_
    rintro e wz ⟨rfl, rfl⟩
    exact ⟨_, rfl, rfl, rfl⟩
   rintro vz _ ⟨rfl, rfl⟩
   skip
   refine hK _ _ (HS0.out) fun hH9 => ?_
   clear hK
   simp only [Act.put, pqA, pqB, pqC]
   refine tkS (i := 10) (oi := ⟨some 131, Op.binOp BinOp.eql 3 (Operand.tmp 125) (Operand.tmp 130) 3, 4, _, _, none⟩) (v := .bool true) rfl (Or.inl ⟨by rfl, fun w hS => by obtain ⟨hS1, hS2, hS3⟩ := hS; go_simp⟩) hH9 ?_
   refine tkS (i := 11) (oi := ⟨some 6, Op.assign (Operand.tmp 131), 4, _, _, none⟩) (v := .bool true) rfl (Or.inl ⟨by rfl, fun w hS => by obtain ⟨hS1, hS2, hS3⟩ := hS; go_simp⟩) hH9 ?_
   refine wpAnyH_done (by kernel_rfl) ?_ _
   refine hK14 _ _ ?_
   refine wp_ret ?_
   go_ret
   exact ⟨rfl, j, .slice aa nk nk, D5, V5, la, nk, (all.take nk), N5, L9.out.drew, JX8.out, PS5.out, by have h8 := HAc.out; omega, G9.out.drew⟩
  ·have HS0 : Keep ((w5.drew).cell? ⟨q, 1, none⟩ = some (.int .i64 (nk : Int)) ∧ (w5.drew).cell? ⟨x, 4, none⟩ = some (.int .i64 (sure : Int))) := ⟨⟨Q6.out.c 1 rfl, L6.out.bx.c 4 rfl⟩⟩
   refine wp_region_held_drew (S := fun wx => wx.cell? ⟨q, 1, none⟩ = some (.int .i64 (nk : Int)) ∧ wx.cell? ⟨x, 4, none⟩ = some (.int .i64 (sure : Int))) (by kernel_rfl) HS0.out (fun hHeld => ?_)
   clear HS0
   generalize w5.drew = w6 at *
   refine tkS (i := 0) (oi := ⟨some 62, Op.move (Operand.tmp 7), 24, _, _, none⟩) (v := .int .i64 0) rfl (Or.inl ⟨by rfl, fun w hS => by obtain ⟨hS1, hS2⟩ := hS; go_simp⟩) hHeld ?_
   refine tkS (i := 1) (oi := ⟨some 63, Op.binOp BinOp.eql 24 (Operand.tmp 62) (Operand.const (Value.int IntKind.i64 0)) 24, 4, _, _, none⟩) (v := .bool true) rfl (Or.inl ⟨by rfl, fun w hS => by obtain ⟨hS1, hS2⟩ := hS; go_simp⟩) hHeld ?_
   refine tkS (i := 2) (oi := ⟨some 64, Op.move (Operand.tmp 63), 4, _, _, none⟩) (v := .bool true) rfl (Or.inl ⟨by rfl, fun w hS => by obtain ⟨hS1, hS2⟩ := hS; go_simp⟩) hHeld ?_
   refine tkS (i := 3) (oi := ⟨some 65, Op.move (Operand.tmp 7), 24, _, _, some (2, false)⟩) (v := undef) rfl (Or.inr ⟨by rfl, rfl⟩) hHeld ?_
   refine tkS (i := 4) (oi := ⟨some 66, Op.binOp BinOp.eql 24 (Operand.tmp 65) (Operand.const (Value.int IntKind.i64 7)) 24, 4, _, _, some (2, false)⟩) (v := undef) rfl (Or.inr ⟨by rfl, rfl⟩) hHeld ?_
   refine tkS (i := 5) (oi := ⟨some 67, Op.pick (Operand.tmp 64) (Operand.const (Value.bool true)) (Operand.tmp 66), 4, _, _, none⟩) (v := .bool true) rfl (Or.inl ⟨by rfl, fun w hS => by obtain ⟨hS1, hS2⟩ := hS; go_simp⟩) hHeld ?_
   refine tkS (i := 6) (oi := ⟨some 68, Op.move (Operand.tmp 67), 4, _, _, none⟩) (v := .bool true) rfl (Or.inl ⟨by rfl, fun w hS => by obtain ⟨hS1, hS2⟩ := hS; go_simp⟩) hHeld ?_
   refine tkS (i := 7) (oi := ⟨some 69, Op.fieldAddr 39 (Operand.tmp 4) 1, 0, _, _, some (6, true)⟩) (v := .pointer (some ⟨q, 1, none⟩)) rfl (Or.inl ⟨by rfl, fun w hS => by obtain ⟨hS1, hS2⟩ := hS; go_simp⟩) hHeld ?_
   refine tkS (i := 8) (oi := ⟨some 70, Op.load 3 (Operand.tmp 69), 3, _, _, some (6, true)⟩) (v := .int .i64 (nk : Int)) rfl (Or.inl ⟨by rfl, fun w hS => by obtain ⟨hS1, hS2⟩ := hS; go_simp⟩) hHeld ?_
   refine tkS (i := 9) (oi := ⟨some 71, Op.binOp BinOp.geq 3 (Operand.tmp 70) (Operand.const (Value.int IntKind.i64 0)) 3, 4, _, _, some (6, true)⟩) (v := .bool true) rfl (Or.inl ⟨by rfl, fun w hS => by obtain ⟨hS1, hS2⟩ := hS; go_simp⟩) hHeld ?_
   refine tkS (i := 10) (oi := ⟨some 72, Op.pick (Operand.tmp 68) (Operand.tmp 71) (Operand.const (Value.bool false)), 4, _, _, none⟩) (v := .bool true) rfl (Or.inl ⟨by rfl, fun w hS => by obtain ⟨hS1, hS2⟩ := hS; go_simp⟩) hHeld ?_
   refine tkS (i := 11) (oi := ⟨some 73, Op.move (Operand.tmp 72), 4, _, _, none⟩) (v := .bool true) rfl (Or.inl ⟨by rfl, fun w hS => by obtain ⟨hS1, hS2⟩ := hS; go_simp⟩) hHeld ?_
   refine tkS (i := 12) (oi := ⟨some 74, Op.fieldAddr 39 (Operand.tmp 4) 1, 0, _, _, some (11, true)⟩) (v := .pointer (some ⟨q, 1, none⟩)) rfl (Or.inl ⟨by rfl, fun w hS => by obtain ⟨hS1, hS2⟩ := hS; go_simp⟩) hHeld ?_
   refine tkS (i := 13) (oi := ⟨some 75, Op.load 3 (Operand.tmp 74), 3, _, _, some (11, true)⟩) (v := .int .i64 (nk : Int)) rfl (Or.inl ⟨by rfl, fun w hS => by obtain ⟨hS1, hS2⟩ := hS; go_simp⟩) hHeld ?_
   refine tkS (i := 14) (oi := ⟨some 76, Op.move (Operand.tmp 0), 34, _, _, some (11, true)⟩) (v := .pointer (some ⟨x, 0, none⟩)) rfl (Or.inl ⟨by rfl, fun w hS => by obtain ⟨hS1, hS2⟩ := hS; go_simp⟩) hHeld ?_
   refine tkS (i := 15) (oi := ⟨some 77, Op.nilCheck (Operand.tmp 76), 0, _, _, some (11, true)⟩) (v := .pointer (some ⟨x, 0, none⟩)) rfl (Or.inl ⟨by rfl, fun w hS => by obtain ⟨hS1, hS2⟩ := hS; go_simp⟩) hHeld ?_
   refine tkS (i := 16) (oi := ⟨some 78, Op.fieldAddr 36 (Operand.tmp 77) 4, 0, _, _, some (11, true)⟩) (v := .pointer (some ⟨x, 4, none⟩)) rfl (Or.inl ⟨by rfl, fun w hS => by obtain ⟨hS1, hS2⟩ := hS; go_simp⟩) hHeld ?_
   refine tkS (i := 17) (oi := ⟨some 79, Op.load 3 (Operand.tmp 78), 3, _, _, some (11, true)⟩) (v := .int .i64 (sure : Int)) rfl (Or.inl ⟨by rfl, fun w hS => by obtain ⟨hS1, hS2⟩ := hS; go_simp⟩) hHeld ?_
   refine tkS (i := 18) (oi := ⟨some 80, Op.binOp BinOp.lss 3 (Operand.tmp 75) (Operand.tmp 79) 3, 4, _, _, some (11, true)⟩) (v := .bool false) rfl (Or.inl ⟨by rfl, fun w hS => by obtain ⟨hS1, hS2⟩ := hS; go_simp⟩) hHeld ?_
   refine tkS (i := 19) (oi := ⟨some 81, Op.pick (Operand.tmp 73) (Operand.tmp 80) (Operand.const (Value.bool false)), 4, _, _, none⟩) (v := .bool false) rfl (Or.inl ⟨by rfl, fun w hS => by obtain ⟨hS1, hS2⟩ := hS; go_simp⟩) hHeld ?_
   refine wpAnyH_done (by kernel_rfl) ?_ _
   refine hK10 _ _ ?_
   refine wp_cond_false rfl ?_
   refine wp_skip ?_
   refine hK9 _ _ ?_
   refine wp_seq_k fun K15 hK15 => rgn ?_
   refine VlS (.int .i64 0) ?_
   refine VlS (.bool true) ?_
   refine WL.nil (hK15 _ _ ?_)
   refine wp_cond_true rfl ?_
   have L8 := Keep.mk L6.out.drew
   have Q8 : Keep (Blk w6.drew q 39 #[.int .i64 3, .int .i64 (nk : Int), .slice ba bl.length bc, .slice ka kl.length kc]) := ⟨Q6.out.drew⟩
   have G8 : Keep (Grown w w6.drew fun k => B ≤ k) := ⟨G6.out.drew⟩
   have I8 := Keep.mk (I6.out.grown (Grown.refl w6 (fun k => B ≤ k)).drew fun _ h => h)
   clear L6 Q6 G6 I6
   refine wp_region_held_drew (S := fun wx => Blk wx q 39 #[.int .i64 3, .int .i64 (nk : Int), .slice ba bl.length bc, .slice ka kl.length kc]) (by kernel_rfl) Q8.out (fun hHeld => ?_)
   generalize w6.drew = w8 at *
   have JX8 : Keep (JX D5 V5 la sure) := ⟨by have h := JX5.out; rw [Nat.min_eq_left (by omega)] at h; exact h⟩
   refine tkS (i := 0) (oi := ⟨some 89, Op.move (Operand.tmp 0), 34, _, _, none⟩) (v := .pointer (some ⟨x, 0, none⟩)) rfl (Or.inl ⟨by rfl, fun w hS => by have q1 := hS.c 1 (by rfl : (#[.int .i64 3, .int .i64 (nk : Int), .slice ba bl.length bc, .slice ka kl.length kc] : Array Value)[1]? = some (.int .i64 (nk : Int))); clear hS; go_simp⟩) hHeld ?_
   refine tkS (i := 1) (oi := ⟨some 90, Op.move (Operand.tmp 0), 34, _, _, none⟩) (v := .pointer (some ⟨x, 0, none⟩)) rfl (Or.inl ⟨by rfl, fun w hS => by have q1 := hS.c 1 (by rfl : (#[.int .i64 3, .int .i64 (nk : Int), .slice ba bl.length bc, .slice ka kl.length kc] : Array Value)[1]? = some (.int .i64 (nk : Int))); clear hS; go_simp⟩) hHeld ?_
   refine tkS (i := 2) (oi := ⟨some 91, Op.nilCheck (Operand.tmp 90), 0, _, _, none⟩) (v := .pointer (some ⟨x, 0, none⟩)) rfl (Or.inl ⟨by rfl, fun w hS => by have q1 := hS.c 1 (by rfl : (#[.int .i64 3, .int .i64 (nk : Int), .slice ba bl.length bc, .slice ka kl.length kc] : Array Value)[1]? = some (.int .i64 (nk : Int))); clear hS; go_simp⟩) hHeld ?_
   refine tkS (i := 3) (oi := ⟨some 92, Op.fieldAddr 36 (Operand.tmp 91) 3, 0, _, _, none⟩) (v := .pointer (some ⟨x, 3, none⟩)) rfl (Or.inl ⟨by rfl, fun w hS => by have q1 := hS.c 1 (by rfl : (#[.int .i64 3, .int .i64 (nk : Int), .slice ba bl.length bc, .slice ka kl.length kc] : Array Value)[1]? = some (.int .i64 (nk : Int))); clear hS; go_simp⟩) hHeld ?_
   refine tkS (i := 5) (oi := ⟨some 94, Op.fieldAddr 39 (Operand.tmp 4) 1, 0, _, _, none⟩) (v := .pointer (some ⟨q, 1, none⟩)) rfl (Or.inl ⟨by rfl, fun w hS => by have q1 := hS.c 1 (by rfl : (#[.int .i64 3, .int .i64 (nk : Int), .slice ba bl.length bc, .slice ka kl.length kc] : Array Value)[1]? = some (.int .i64 (nk : Int))); clear hS; go_simp⟩) hHeld ?_
   refine tkS (i := 6) (oi := ⟨some 95, Op.load 3 (Operand.tmp 94), 3, _, _, none⟩) (v := .int .i64 (nk : Int)) rfl (Or.inl ⟨by rfl, fun w hS => by have q1 := hS.c 1 (by rfl : (#[.int .i64 3, .int .i64 (nk : Int), .slice ba bl.length bc, .slice ka kl.length kc] : Array Value)[1]? = some (.int .i64 (nk : Int))); clear hS; go_simp⟩) hHeld ?_
   refine tkS (i := 7) (oi := ⟨some 96, Op.fieldAddr 39 (Operand.tmp 4) 1, 0, _, _, none⟩) (v := .pointer (some ⟨q, 1, none⟩)) rfl (Or.inl ⟨by rfl, fun w hS => by have q1 := hS.c 1 (by rfl : (#[.int .i64 3, .int .i64 (nk : Int), .slice ba bl.length bc, .slice ka kl.length kc] : Array Value)[1]? = some (.int .i64 (nk : Int))); clear hS; go_simp⟩) hHeld ?_
   refine tkS (i := 8) (oi := ⟨some 97, Op.load 3 (Operand.tmp 96), 3, _, _, none⟩) (v := .int .i64 (nk : Int)) rfl (Or.inl ⟨by rfl, fun w hS => by have q1 := hS.c 1 (by rfl : (#[.int .i64 3, .int .i64 (nk : Int), .slice ba bl.length bc, .slice ka kl.length kc] : Array Value)[1]? = some (.int .i64 (nk : Int))); clear hS; go_simp⟩) hHeld ?_
   refine wpAnyH_ready (rs := [4]) (by kernel_rfl) (by simp) ?_
   refine AllReadyH.cons (o := ⟨some 93, Op.load 23 (Operand.tmp 92), 23, _, _, none⟩) rfl (fun K hK => ?_) AllReadyH.nil
   rw [if_pos (by rfl)]
   have cl : w8.cell? ⟨x, 3, none⟩ = some (.slice aa an ac) := L8.out.bx.c 3 rfl
   refine wp_val (.slice aa an ac) (by go_simp) ?_
   clear cl
   refine hK _ _ (Q8.out) fun hL8 => ?_
   clear hK
   simp only [Act.put, pqA, pqB, pqC]
   refine tkS (i := 9) (oi := ⟨some 98, Op.slice 23 (Operand.tmp 93) none (some (Operand.tmp 95)) (some (Operand.tmp 97)), 23, _, _, none⟩) (v := .slice aa nk nk) rfl (yieldsIf_slice3 (by rfl) 23 (.tmp 93) (.tmp 95) (.tmp 97) rfl (.slice aa an ac) (.int .i64 (nk : Int)) (.int .i64 (nk : Int)) (.slice aa nk nk) rfl rfl rfl (sl_run3 aa an ac nk (L8.out.ra.take nk HKl.out).2)) hL8 ?_
   refine tkS (i := 10) (oi := ⟨some 99, Op.nilCheck (Operand.tmp 89), 0, _, _, none⟩) (v := .pointer (some ⟨x, 0, none⟩)) rfl (Or.inl ⟨by rfl, fun w hS => by have q1 := hS.c 1 (by rfl : (#[.int .i64 3, .int .i64 (nk : Int), .slice ba bl.length bc, .slice ka kl.length kc] : Array Value)[1]? = some (.int .i64 (nk : Int))); clear hS; go_simp⟩) hL8 ?_
   refine tkS (i := 11) (oi := ⟨some 100, Op.fieldAddr 36 (Operand.tmp 99) 3, 0, _, _, none⟩) (v := .pointer (some ⟨x, 3, none⟩)) rfl (Or.inl ⟨by rfl, fun w hS => by have q1 := hS.c 1 (by rfl : (#[.int .i64 3, .int .i64 (nk : Int), .slice ba bl.length bc, .slice ka kl.length kc] : Array Value)[1]? = some (.int .i64 (nk : Int))); clear hS; go_simp⟩) hL8 ?_
   refine wpAnyH_ready (rs := [12]) (by kernel_rfl) (by simp) ?_
   refine AllReadyH.cons (o := ⟨none, Op.store 23 (Operand.tmp 100) (Operand.tmp 98), 0, _, _, none⟩) rfl (fun K hK => ?_) AllReadyH.nil
   rw [if_pos (by rfl)]
   have f_o := L8.out.bx.frozen 3
   have cl : w8.cell? ⟨x, 3, none⟩ = some (.slice aa an ac) := L8.out.bx.c 3 rfl
   refine wp_cellS (w8.setCell ⟨x, 3, none⟩ (.slice aa nk nk)) (by go_simp) ?_
   clear f_o cl
   have hgs : Grown w8 (w8.setCell ⟨x, 3, none⟩ (.slice aa nk nk)) fun k => k = x := Grown.setCell w8 x 3 _ fun _ => rfl
   have hxB : ∀ k, k = x → B ≤ k := fun k e => by rw [e]; exact L8.out.xl
   have L9 := Keep.mk (L8.out.setx hgs (vA' := .slice aa nk nk) (sure' := sure) (all' := all.take nk) (L8.out.bx.set 3 (.slice aa nk nk)) (L8.out.ra.take nk HKl.out).1 (by cases aa <;> rfl))
   have Q9 : Keep (Blk (w8.setCell ⟨x, 3, none⟩ (.slice aa nk nk)) q 39 #[.int .i64 3, .int .i64 (nk : Int), .slice ba bl.length bc, .slice ka kl.length kc]) := ⟨hgs.blk Q8.out fun e => by have h1 := Q8.out.typ; rw [e] at h1; have := h1.one L8.out.bx.typ; revert this; decide⟩
   have G9 : Keep (Grown w (w8.setCell ⟨x, 3, none⟩ (.slice aa nk nk)) fun k => B ≤ k) := ⟨G8.out.trans (hgs.mono fun k _ e => hxB k e)⟩
   have I9 := Keep.mk (I8.out.grown hgs hxB)
   clear hgs hxB L8 Q8 G8 I8
   generalize (w8.setCell ⟨x, 3, none⟩ (.slice aa nk nk)) = w9 at *
   have HN9 : Keep (nk = (all.take nk).length) := ⟨by rw [List.length_take, Nat.min_eq_left HKl.out]⟩
   refine hK _ _ (Q9.out) fun hS9 => ?_
   clear hK
   simp only [Act.put, pqA, pqB, pqC]
   refine wpAnyH_done (by kernel_rfl) ?_ _
   refine hK3 _ _ ?_
   refine wp_seq_k fun K16 hK16 => ?_
   refine wp_seq_k fun K17 hK17 => rgn ?_
   refine VlS (.int .i64 0) ?_
   refine VlS (.bool false) ?_
   refine WL.nil (hK17 _ _ ?_)
   refine wp_cond_false rfl ?_
   refine wp_skip ?_
   refine hK16 _ _ ?_
   refine wp_seq_k fun K18 hK18 => ?_
   obtain ⟨pa_, pc_, cj⟩ := L9.out.lenj JX8.out PS5.out
   rw [← HN9.out] at cj
   have HS0 : Keep ((w9.drew).cell? ⟨x, 2, none⟩ = some (ptr j) ∧ (w9.drew).cell? ⟨x, 3, none⟩ = some (.slice aa nk nk) ∧ (w9.drew).cell? ⟨j, 1, none⟩ = some (.slice pa_ nk pc_)) := ⟨⟨L9.out.bx.drew.c 2 rfl, L9.out.bx.drew.c 3 rfl, cj⟩⟩
   clear cj
   refine wp_region_held_drew (S := fun wx => wx.cell? ⟨x, 2, none⟩ = some (ptr j) ∧ wx.cell? ⟨x, 3, none⟩ = some (.slice aa nk nk) ∧ wx.cell? ⟨j, 1, none⟩ = some (.slice pa_ nk pc_)) (by kernel_rfl) (HS0.out) (fun hHeld => ?_)
   refine tkS (i := 0) (oi := ⟨some 121, Op.move (Operand.tmp 0), 34, _, _, none⟩) (v := .pointer (some ⟨x, 0, none⟩)) rfl (Or.inl ⟨by rfl, fun w hS => by obtain ⟨hS1, hS2, hS3⟩ := hS; go_simp⟩) hHeld ?_
   refine tkS (i := 1) (oi := ⟨some 122, Op.nilCheck (Operand.tmp 121), 0, _, _, none⟩) (v := .pointer (some ⟨x, 0, none⟩)) rfl (Or.inl ⟨by rfl, fun w hS => by obtain ⟨hS1, hS2, hS3⟩ := hS; go_simp⟩) hHeld ?_
   refine tkS (i := 2) (oi := ⟨some 123, Op.fieldAddr 36 (Operand.tmp 122) 2, 0, _, _, none⟩) (v := .pointer (some ⟨x, 2, none⟩)) rfl (Or.inl ⟨by rfl, fun w hS => by obtain ⟨hS1, hS2, hS3⟩ := hS; go_simp⟩) hHeld ?_
   refine tkS (i := 3) (oi := ⟨some 124, Op.load 22 (Operand.tmp 123), 22, _, _, none⟩) (v := .pointer (some ⟨j, 0, none⟩)) rfl (Or.inl ⟨by rfl, fun w hS => by obtain ⟨hS1, hS2, hS3⟩ := hS; go_simp⟩) hHeld ?_
   refine tkS (i := 5) (oi := ⟨some 126, Op.move (Operand.tmp 0), 34, _, _, none⟩) (v := .pointer (some ⟨x, 0, none⟩)) rfl (Or.inl ⟨by rfl, fun w hS => by obtain ⟨hS1, hS2, hS3⟩ := hS; go_simp⟩) hHeld ?_
   refine tkS (i := 6) (oi := ⟨some 127, Op.nilCheck (Operand.tmp 126), 0, _, _, none⟩) (v := .pointer (some ⟨x, 0, none⟩)) rfl (Or.inl ⟨by rfl, fun w hS => by obtain ⟨hS1, hS2, hS3⟩ := hS; go_simp⟩) hHeld ?_
   refine tkS (i := 7) (oi := ⟨some 128, Op.fieldAddr 36 (Operand.tmp 127) 3, 0, _, _, none⟩) (v := .pointer (some ⟨x, 3, none⟩)) rfl (Or.inl ⟨by rfl, fun w hS => by obtain ⟨hS1, hS2, hS3⟩ := hS; go_simp⟩) hHeld ?_
   refine tkS (i := 8) (oi := ⟨some 129, Op.load 23 (Operand.tmp 128), 23, _, _, none⟩) (v := .slice aa nk nk) rfl (Or.inl ⟨by rfl, fun w hS => by obtain ⟨hS1, hS2, hS3⟩ := hS; go_simp⟩) hHeld ?_
   refine tkS (i := 9) (oi := ⟨some 130, Op.call { callee := Callee.builtin Builtin.len, args := #[Operand.tmp 129], argTypes := #[23] }, 3, _, _, none⟩) (v := .int .i64 (nk : Int)) rfl (Or.inl ⟨by rfl, fun w hS => by obtain ⟨hS1, hS2, hS3⟩ := hS; go_simp⟩) hHeld ?_
   refine wpAnyH_ready (rs := [4]) (by kernel_rfl) (by simp) ?_
   refine AllReadyH.cons (o := ⟨some 125, Op.call { callee := Callee.value (Operand.func 26), args := #[Operand.tmp 124], argTypes := #[22] }, 3, _, _, none⟩) rfl (fun K hK => ?_) AllReadyH.nil
   rw [if_pos (by rfl)]
   refine wp_callF 26 _ _ rfl Tryd.in26 #[ptr j] (by simp [Act.eval]) (fun vz wz => vz = .int .i64 (nk : Int) ∧ wz = w9.drew) ?_ ?_
   ·refine (len_any j pa_ nk pc_ w9.drew HS0.out.2.2).mono ?_
    rintro e wz ⟨rfl, rfl⟩
    exact ⟨_, rfl, rfl, rfl⟩
   rintro vz _ ⟨rfl, rfl⟩
   skip
   refine hK _ _ (HS0.out) fun hH9 => ?_
   clear hK
   simp only [Act.put, pqA, pqB, pqC]
   refine tkS (i := 10) (oi := ⟨some 131, Op.binOp BinOp.eql 3 (Operand.tmp 125) (Operand.tmp 130) 3, 4, _, _, none⟩) (v := .bool true) rfl (Or.inl ⟨by rfl, fun w hS => by obtain ⟨hS1, hS2, hS3⟩ := hS; go_simp⟩) hH9 ?_
   refine tkS (i := 11) (oi := ⟨some 6, Op.assign (Operand.tmp 131), 4, _, _, none⟩) (v := .bool true) rfl (Or.inl ⟨by rfl, fun w hS => by obtain ⟨hS1, hS2, hS3⟩ := hS; go_simp⟩) hH9 ?_
   refine wpAnyH_done (by kernel_rfl) ?_ _
   refine hK18 _ _ ?_
   refine wp_ret ?_
   go_ret
   exact ⟨rfl, j, .slice aa nk nk, D5, V5, la, sure, (all.take nk), N5, L9.out.drew, JX8.out, PS5.out, by have h8 := HAc.out; omega, G9.out.drew⟩
 ·obtain ⟨nk, hnk⟩ : ∃ nk : Nat, nn = (nk : Int) := ⟨nn.toNat, by omega⟩
  subst hnk
  rw [Int.toNat_natCast] at hcr
  have CR5 : Keep (CR D5 all (min sure nk)) := ⟨by rw [HP.out] at hcr; exact hcr⟩
  clear hn0 hnl hcr H4
  have hge : ¬ (nk : Int) < 0 := by omega
  rcases Decidable.em ((nk : Int) < (sure : Int)) with hns | hns
  ·have HS0 : Keep ((w5.drew).cell? ⟨q, 1, none⟩ = some (.int .i64 (nk : Int)) ∧ (w5.drew).cell? ⟨x, 4, none⟩ = some (.int .i64 (sure : Int))) := ⟨⟨Q6.out.c 1 rfl, L6.out.bx.c 4 rfl⟩⟩
   refine wp_region_held_drew (S := fun wx => wx.cell? ⟨q, 1, none⟩ = some (.int .i64 (nk : Int)) ∧ wx.cell? ⟨x, 4, none⟩ = some (.int .i64 (sure : Int))) (by kernel_rfl) HS0.out (fun hHeld => ?_)
   clear HS0
   generalize w5.drew = w6 at *
   refine tkS (i := 0) (oi := ⟨some 62, Op.move (Operand.tmp 7), 24, _, _, none⟩) (v := .int .i64 7) rfl (Or.inl ⟨by rfl, fun w hS => by obtain ⟨hS1, hS2⟩ := hS; go_simp⟩) hHeld ?_
   refine tkS (i := 1) (oi := ⟨some 63, Op.binOp BinOp.eql 24 (Operand.tmp 62) (Operand.const (Value.int IntKind.i64 0)) 24, 4, _, _, none⟩) (v := .bool false) rfl (Or.inl ⟨by rfl, fun w hS => by obtain ⟨hS1, hS2⟩ := hS; go_simp⟩) hHeld ?_
   refine tkS (i := 2) (oi := ⟨some 64, Op.move (Operand.tmp 63), 4, _, _, none⟩) (v := .bool false) rfl (Or.inl ⟨by rfl, fun w hS => by obtain ⟨hS1, hS2⟩ := hS; go_simp⟩) hHeld ?_
   refine tkS (i := 3) (oi := ⟨some 65, Op.move (Operand.tmp 7), 24, _, _, some (2, false)⟩) (v := .int .i64 7) rfl (Or.inl ⟨by rfl, fun w hS => by obtain ⟨hS1, hS2⟩ := hS; go_simp⟩) hHeld ?_
   refine tkS (i := 4) (oi := ⟨some 66, Op.binOp BinOp.eql 24 (Operand.tmp 65) (Operand.const (Value.int IntKind.i64 7)) 24, 4, _, _, some (2, false)⟩) (v := .bool true) rfl (Or.inl ⟨by rfl, fun w hS => by obtain ⟨hS1, hS2⟩ := hS; go_simp⟩) hHeld ?_
   refine tkS (i := 5) (oi := ⟨some 67, Op.pick (Operand.tmp 64) (Operand.const (Value.bool true)) (Operand.tmp 66), 4, _, _, none⟩) (v := .bool true) rfl (Or.inl ⟨by rfl, fun w hS => by obtain ⟨hS1, hS2⟩ := hS; go_simp⟩) hHeld ?_
   refine tkS (i := 6) (oi := ⟨some 68, Op.move (Operand.tmp 67), 4, _, _, none⟩) (v := .bool true) rfl (Or.inl ⟨by rfl, fun w hS => by obtain ⟨hS1, hS2⟩ := hS; go_simp⟩) hHeld ?_
   refine tkS (i := 7) (oi := ⟨some 69, Op.fieldAddr 39 (Operand.tmp 4) 1, 0, _, _, some (6, true)⟩) (v := .pointer (some ⟨q, 1, none⟩)) rfl (Or.inl ⟨by rfl, fun w hS => by obtain ⟨hS1, hS2⟩ := hS; go_simp⟩) hHeld ?_
   refine tkS (i := 8) (oi := ⟨some 70, Op.load 3 (Operand.tmp 69), 3, _, _, some (6, true)⟩) (v := .int .i64 (nk : Int)) rfl (Or.inl ⟨by rfl, fun w hS => by obtain ⟨hS1, hS2⟩ := hS; go_simp⟩) hHeld ?_
   refine tkS (i := 9) (oi := ⟨some 71, Op.binOp BinOp.geq 3 (Operand.tmp 70) (Operand.const (Value.int IntKind.i64 0)) 3, 4, _, _, some (6, true)⟩) (v := .bool true) rfl (Or.inl ⟨by rfl, fun w hS => by obtain ⟨hS1, hS2⟩ := hS; go_simp⟩) hHeld ?_
   refine tkS (i := 10) (oi := ⟨some 72, Op.pick (Operand.tmp 68) (Operand.tmp 71) (Operand.const (Value.bool false)), 4, _, _, none⟩) (v := .bool true) rfl (Or.inl ⟨by rfl, fun w hS => by obtain ⟨hS1, hS2⟩ := hS; go_simp⟩) hHeld ?_
   refine tkS (i := 11) (oi := ⟨some 73, Op.move (Operand.tmp 72), 4, _, _, none⟩) (v := .bool true) rfl (Or.inl ⟨by rfl, fun w hS => by obtain ⟨hS1, hS2⟩ := hS; go_simp⟩) hHeld ?_
   refine tkS (i := 12) (oi := ⟨some 74, Op.fieldAddr 39 (Operand.tmp 4) 1, 0, _, _, some (11, true)⟩) (v := .pointer (some ⟨q, 1, none⟩)) rfl (Or.inl ⟨by rfl, fun w hS => by obtain ⟨hS1, hS2⟩ := hS; go_simp⟩) hHeld ?_
   refine tkS (i := 13) (oi := ⟨some 75, Op.load 3 (Operand.tmp 74), 3, _, _, some (11, true)⟩) (v := .int .i64 (nk : Int)) rfl (Or.inl ⟨by rfl, fun w hS => by obtain ⟨hS1, hS2⟩ := hS; go_simp⟩) hHeld ?_
   refine tkS (i := 14) (oi := ⟨some 76, Op.move (Operand.tmp 0), 34, _, _, some (11, true)⟩) (v := .pointer (some ⟨x, 0, none⟩)) rfl (Or.inl ⟨by rfl, fun w hS => by obtain ⟨hS1, hS2⟩ := hS; go_simp⟩) hHeld ?_
   refine tkS (i := 15) (oi := ⟨some 77, Op.nilCheck (Operand.tmp 76), 0, _, _, some (11, true)⟩) (v := .pointer (some ⟨x, 0, none⟩)) rfl (Or.inl ⟨by rfl, fun w hS => by obtain ⟨hS1, hS2⟩ := hS; go_simp⟩) hHeld ?_
   refine tkS (i := 16) (oi := ⟨some 78, Op.fieldAddr 36 (Operand.tmp 77) 4, 0, _, _, some (11, true)⟩) (v := .pointer (some ⟨x, 4, none⟩)) rfl (Or.inl ⟨by rfl, fun w hS => by obtain ⟨hS1, hS2⟩ := hS; go_simp⟩) hHeld ?_
   refine tkS (i := 17) (oi := ⟨some 79, Op.load 3 (Operand.tmp 78), 3, _, _, some (11, true)⟩) (v := .int .i64 (sure : Int)) rfl (Or.inl ⟨by rfl, fun w hS => by obtain ⟨hS1, hS2⟩ := hS; go_simp⟩) hHeld ?_
   refine tkS (i := 18) (oi := ⟨some 80, Op.binOp BinOp.lss 3 (Operand.tmp 75) (Operand.tmp 79) 3, 4, _, _, some (11, true)⟩) (v := .bool true) rfl (Or.inl ⟨by rfl, fun w hS => by obtain ⟨hS1, hS2⟩ := hS; go_simp⟩) hHeld ?_
   refine tkS (i := 19) (oi := ⟨some 81, Op.pick (Operand.tmp 73) (Operand.tmp 80) (Operand.const (Value.bool false)), 4, _, _, none⟩) (v := .bool true) rfl (Or.inl ⟨by rfl, fun w hS => by obtain ⟨hS1, hS2⟩ := hS; go_simp⟩) hHeld ?_
   refine wpAnyH_done (by kernel_rfl) ?_ _
   refine hK10 _ _ ?_
   refine wp_cond_true rfl ?_
   have c1 := Q6.out.c 1 (by rfl : (#[.int .i64 3, .int .i64 (nk : Int), .slice ba bl.length bc, .slice ka kl.length kc] : Array Value)[1]? = some (.int .i64 (nk : Int)))
   refine rgn ?_
   refine VlS (.pointer (some ⟨x, 0, none⟩)) ?_
   refine VlS (.pointer (some ⟨q, 1, none⟩)) ?_
   refine VlS (.int .i64 (nk : Int)) ?_
   refine VlS (.pointer (some ⟨x, 0, none⟩)) ?_
   refine VlS (.pointer (some ⟨x, 4, none⟩)) ?_
   clear c1
   have f_o := L6.out.bx.frozen 4
   have cl : w6.cell? ⟨x, 4, none⟩ = some (.int .i64 (sure : Int)) := L6.out.bx.c 4 rfl
   refine WL.cell (by kernel_rfl) (w6.setCell ⟨x, 4, none⟩ (.int .i64 (nk : Int))) (by go_simp) ?_
   clear f_o cl
   have hgs : Grown w6 (w6.setCell ⟨x, 4, none⟩ (.int .i64 (nk : Int))) fun k => k = x := Grown.setCell w6 x 4 _ fun _ => rfl
   have hxB : ∀ k, k = x → B ≤ k := fun k e => by rw [e]; exact L6.out.xl
   have L7 := Keep.mk (L6.out.setx hgs (vA' := .slice aa an ac) (sure' := nk) (all' := all) (L6.out.bx.set 4 (.int .i64 (nk : Int))) L6.out.ra rfl)
   have Q7 : Keep (Blk (w6.setCell ⟨x, 4, none⟩ (.int .i64 (nk : Int))) q 39 #[.int .i64 3, .int .i64 (nk : Int), .slice ba bl.length bc, .slice ka kl.length kc]) := ⟨hgs.blk Q6.out fun e => by have h1 := Q6.out.typ; rw [e] at h1; have := h1.one L6.out.bx.typ; revert this; decide⟩
   have G7 : Keep (Grown w (w6.setCell ⟨x, 4, none⟩ (.int .i64 (nk : Int))) fun k => B ≤ k) := ⟨G6.out.trans (hgs.mono fun k _ e => hxB k e)⟩
   have I7 := Keep.mk (I6.out.grown hgs hxB)
   clear hgs hxB L6 Q6 G6 I6
   generalize (w6.setCell ⟨x, 4, none⟩ (.int .i64 (nk : Int))) = w7 at *
   simp only [Act.put]
   refine WL.nil (hK9 _ _ ?_)
   refine wp_seq_k fun K19 hK19 => rgn ?_
   refine VlS (.int .i64 7) ?_
   refine VlS (.bool false) ?_
   refine WL.nil (hK19 _ _ ?_)
   refine wp_cond_false rfl ?_
   refine wp_skip ?_
   refine hK3 _ _ ?_
   refine wp_seq_k fun K20 hK20 => ?_
   refine wp_seq_k fun K21 hK21 => rgn ?_
   refine VlS (.int .i64 7) ?_
   refine VlS (.bool true) ?_
   refine WL.nil (hK21 _ _ ?_)
   refine wp_cond_true rfl ?_
   refine wp_seq_k fun K22 hK22 => rgn ?_
   refine VlS (.pointer (some ⟨x, 0, none⟩)) ?_
   refine VlS (vk) ?_
   refine WL.callF (by kernel_rfl) 12 _ _ rfl Tryd.in12 #[ptr x, vk] (by simp [Act.eval]) ?_
   refine (again_life B x h d p j (.slice aa an ac) (vk) kp D5 V5 la de5 nk all N5 w7 L7.out (by have h := CR5.out; rw [Nat.min_eq_right (by omega)] at h; exact h) I7.out (by have := HA.out; have h8 := HAc.out; omega) (by have := Hal.out; omega)).mono ?_
   rintro e w9 ⟨rfl, j9, vA9, D9, V9, k9, N9, a1, a2, a3, a4, a5, a6, a7⟩
   refine ⟨_, rfl, ?_⟩
   have A1 := Keep.mk a1
   have A2 := Keep.mk a2
   have A3 := Keep.mk a3
   have A6 := Keep.mk a6
   have A7 := Keep.mk a7
   clear a1 a2 a3 a4 a5 a6 a7
   simp only [Act.put, pqA, pqB, pqC]
   refine VlS (.bool true) ?_
   refine WL.nil (hK22 _ _ ?_)
   refine wp_ret ?_
   go_ret
   exact ⟨rfl, j9, vA9, D9, V9, false, k9, _, N9, A1.out, A2.out, A3.out, by have h9 := A6.out; have h8 := HAc.out; omega, G7.out.trans A7.out⟩
  ·have HS0 : Keep ((w5.drew).cell? ⟨q, 1, none⟩ = some (.int .i64 (nk : Int)) ∧ (w5.drew).cell? ⟨x, 4, none⟩ = some (.int .i64 (sure : Int))) := ⟨⟨Q6.out.c 1 rfl, L6.out.bx.c 4 rfl⟩⟩
   refine wp_region_held_drew (S := fun wx => wx.cell? ⟨q, 1, none⟩ = some (.int .i64 (nk : Int)) ∧ wx.cell? ⟨x, 4, none⟩ = some (.int .i64 (sure : Int))) (by kernel_rfl) HS0.out (fun hHeld => ?_)
   clear HS0
   generalize w5.drew = w6 at *
   refine tkS (i := 0) (oi := ⟨some 62, Op.move (Operand.tmp 7), 24, _, _, none⟩) (v := .int .i64 7) rfl (Or.inl ⟨by rfl, fun w hS => by obtain ⟨hS1, hS2⟩ := hS; go_simp⟩) hHeld ?_
   refine tkS (i := 1) (oi := ⟨some 63, Op.binOp BinOp.eql 24 (Operand.tmp 62) (Operand.const (Value.int IntKind.i64 0)) 24, 4, _, _, none⟩) (v := .bool false) rfl (Or.inl ⟨by rfl, fun w hS => by obtain ⟨hS1, hS2⟩ := hS; go_simp⟩) hHeld ?_
   refine tkS (i := 2) (oi := ⟨some 64, Op.move (Operand.tmp 63), 4, _, _, none⟩) (v := .bool false) rfl (Or.inl ⟨by rfl, fun w hS => by obtain ⟨hS1, hS2⟩ := hS; go_simp⟩) hHeld ?_
   refine tkS (i := 3) (oi := ⟨some 65, Op.move (Operand.tmp 7), 24, _, _, some (2, false)⟩) (v := .int .i64 7) rfl (Or.inl ⟨by rfl, fun w hS => by obtain ⟨hS1, hS2⟩ := hS; go_simp⟩) hHeld ?_
   refine tkS (i := 4) (oi := ⟨some 66, Op.binOp BinOp.eql 24 (Operand.tmp 65) (Operand.const (Value.int IntKind.i64 7)) 24, 4, _, _, some (2, false)⟩) (v := .bool true) rfl (Or.inl ⟨by rfl, fun w hS => by obtain ⟨hS1, hS2⟩ := hS; go_simp⟩) hHeld ?_
   refine tkS (i := 5) (oi := ⟨some 67, Op.pick (Operand.tmp 64) (Operand.const (Value.bool true)) (Operand.tmp 66), 4, _, _, none⟩) (v := .bool true) rfl (Or.inl ⟨by rfl, fun w hS => by obtain ⟨hS1, hS2⟩ := hS; go_simp⟩) hHeld ?_
   refine tkS (i := 6) (oi := ⟨some 68, Op.move (Operand.tmp 67), 4, _, _, none⟩) (v := .bool true) rfl (Or.inl ⟨by rfl, fun w hS => by obtain ⟨hS1, hS2⟩ := hS; go_simp⟩) hHeld ?_
   refine tkS (i := 7) (oi := ⟨some 69, Op.fieldAddr 39 (Operand.tmp 4) 1, 0, _, _, some (6, true)⟩) (v := .pointer (some ⟨q, 1, none⟩)) rfl (Or.inl ⟨by rfl, fun w hS => by obtain ⟨hS1, hS2⟩ := hS; go_simp⟩) hHeld ?_
   refine tkS (i := 8) (oi := ⟨some 70, Op.load 3 (Operand.tmp 69), 3, _, _, some (6, true)⟩) (v := .int .i64 (nk : Int)) rfl (Or.inl ⟨by rfl, fun w hS => by obtain ⟨hS1, hS2⟩ := hS; go_simp⟩) hHeld ?_
   refine tkS (i := 9) (oi := ⟨some 71, Op.binOp BinOp.geq 3 (Operand.tmp 70) (Operand.const (Value.int IntKind.i64 0)) 3, 4, _, _, some (6, true)⟩) (v := .bool true) rfl (Or.inl ⟨by rfl, fun w hS => by obtain ⟨hS1, hS2⟩ := hS; go_simp⟩) hHeld ?_
   refine tkS (i := 10) (oi := ⟨some 72, Op.pick (Operand.tmp 68) (Operand.tmp 71) (Operand.const (Value.bool false)), 4, _, _, none⟩) (v := .bool true) rfl (Or.inl ⟨by rfl, fun w hS => by obtain ⟨hS1, hS2⟩ := hS; go_simp⟩) hHeld ?_
   refine tkS (i := 11) (oi := ⟨some 73, Op.move (Operand.tmp 72), 4, _, _, none⟩) (v := .bool true) rfl (Or.inl ⟨by rfl, fun w hS => by obtain ⟨hS1, hS2⟩ := hS; go_simp⟩) hHeld ?_
   refine tkS (i := 12) (oi := ⟨some 74, Op.fieldAddr 39 (Operand.tmp 4) 1, 0, _, _, some (11, true)⟩) (v := .pointer (some ⟨q, 1, none⟩)) rfl (Or.inl ⟨by rfl, fun w hS => by obtain ⟨hS1, hS2⟩ := hS; go_simp⟩) hHeld ?_
   refine tkS (i := 13) (oi := ⟨some 75, Op.load 3 (Operand.tmp 74), 3, _, _, some (11, true)⟩) (v := .int .i64 (nk : Int)) rfl (Or.inl ⟨by rfl, fun w hS => by obtain ⟨hS1, hS2⟩ := hS; go_simp⟩) hHeld ?_
   refine tkS (i := 14) (oi := ⟨some 76, Op.move (Operand.tmp 0), 34, _, _, some (11, true)⟩) (v := .pointer (some ⟨x, 0, none⟩)) rfl (Or.inl ⟨by rfl, fun w hS => by obtain ⟨hS1, hS2⟩ := hS; go_simp⟩) hHeld ?_
   refine tkS (i := 15) (oi := ⟨some 77, Op.nilCheck (Operand.tmp 76), 0, _, _, some (11, true)⟩) (v := .pointer (some ⟨x, 0, none⟩)) rfl (Or.inl ⟨by rfl, fun w hS => by obtain ⟨hS1, hS2⟩ := hS; go_simp⟩) hHeld ?_
   refine tkS (i := 16) (oi := ⟨some 78, Op.fieldAddr 36 (Operand.tmp 77) 4, 0, _, _, some (11, true)⟩) (v := .pointer (some ⟨x, 4, none⟩)) rfl (Or.inl ⟨by rfl, fun w hS => by obtain ⟨hS1, hS2⟩ := hS; go_simp⟩) hHeld ?_
   refine tkS (i := 17) (oi := ⟨some 79, Op.load 3 (Operand.tmp 78), 3, _, _, some (11, true)⟩) (v := .int .i64 (sure : Int)) rfl (Or.inl ⟨by rfl, fun w hS => by obtain ⟨hS1, hS2⟩ := hS; go_simp⟩) hHeld ?_
   refine tkS (i := 18) (oi := ⟨some 80, Op.binOp BinOp.lss 3 (Operand.tmp 75) (Operand.tmp 79) 3, 4, _, _, some (11, true)⟩) (v := .bool false) rfl (Or.inl ⟨by rfl, fun w hS => by obtain ⟨hS1, hS2⟩ := hS; go_simp⟩) hHeld ?_
   refine tkS (i := 19) (oi := ⟨some 81, Op.pick (Operand.tmp 73) (Operand.tmp 80) (Operand.const (Value.bool false)), 4, _, _, none⟩) (v := .bool false) rfl (Or.inl ⟨by rfl, fun w hS => by obtain ⟨hS1, hS2⟩ := hS; go_simp⟩) hHeld ?_
   refine wpAnyH_done (by kernel_rfl) ?_ _
   refine hK10 _ _ ?_
   refine wp_cond_false rfl ?_
   refine wp_skip ?_
   refine hK9 _ _ ?_
   refine wp_seq_k fun K23 hK23 => rgn ?_
   refine VlS (.int .i64 7) ?_
   refine VlS (.bool false) ?_
   refine WL.nil (hK23 _ _ ?_)
   refine wp_cond_false rfl ?_
   refine wp_skip ?_
   refine hK3 _ _ ?_
   refine wp_seq_k fun K24 hK24 => ?_
   refine wp_seq_k fun K25 hK25 => rgn ?_
   refine VlS (.int .i64 7) ?_
   refine VlS (.bool true) ?_
   refine WL.nil (hK25 _ _ ?_)
   refine wp_cond_true rfl ?_
   refine wp_seq_k fun K26 hK26 => rgn ?_
   refine VlS (.pointer (some ⟨x, 0, none⟩)) ?_
   refine VlS (vk) ?_
   refine WL.callF (by kernel_rfl) 12 _ _ rfl Tryd.in12 #[ptr x, vk] (by simp [Act.eval]) ?_
   refine (again_life B x h d p j (.slice aa an ac) (vk) kp D5 V5 la de5 sure all N5 w6 L6.out (by have h := CR5.out; rw [Nat.min_eq_left (by omega)] at h; exact h) I6.out (by have := HA.out; have h8 := HAc.out; omega) (by have := Hal.out; omega)).mono ?_
   rintro e w9 ⟨rfl, j9, vA9, D9, V9, k9, N9, a1, a2, a3, a4, a5, a6, a7⟩
   refine ⟨_, rfl, ?_⟩
   have A1 := Keep.mk a1
   have A2 := Keep.mk a2
   have A3 := Keep.mk a3
   have A6 := Keep.mk a6
   have A7 := Keep.mk a7
   clear a1 a2 a3 a4 a5 a6 a7
   simp only [Act.put, pqA, pqB, pqC]
   refine VlS (.bool true) ?_
   refine WL.nil (hK26 _ _ ?_)
   refine wp_ret ?_
   go_ret
   exact ⟨rfl, j9, vA9, D9, V9, false, k9, _, N9, A1.out, A2.out, A3.out, by have h9 := A6.out; have h8 := HAc.out; omega, G6.out.trans A7.out⟩
 ·have JX5 := Keep.mk hjx
  clear hjx H4 hn0
  have HS0 : Keep ((w5.drew).cell? ⟨q, 1, none⟩ = some (.int .i64 nn) ∧ (w5.drew).cell? ⟨x, 4, none⟩ = some (.int .i64 (sure : Int))) := ⟨⟨Q6.out.c 1 rfl, L6.out.bx.c 4 rfl⟩⟩
  refine wp_region_held_drew (S := fun wx => wx.cell? ⟨q, 1, none⟩ = some (.int .i64 nn) ∧ wx.cell? ⟨x, 4, none⟩ = some (.int .i64 (sure : Int))) (by kernel_rfl) HS0.out (fun hHeld => ?_)
  clear HS0
  generalize w5.drew = w6 at *
  refine tkS (i := 0) (oi := ⟨some 62, Op.move (Operand.tmp 7), 24, _, _, none⟩) (v := .int .i64 2) rfl (Or.inl ⟨by rfl, fun w hS => by obtain ⟨hS1, hS2⟩ := hS; go_simp⟩) hHeld ?_
  refine tkS (i := 1) (oi := ⟨some 63, Op.binOp BinOp.eql 24 (Operand.tmp 62) (Operand.const (Value.int IntKind.i64 0)) 24, 4, _, _, none⟩) (v := .bool false) rfl (Or.inl ⟨by rfl, fun w hS => by obtain ⟨hS1, hS2⟩ := hS; go_simp⟩) hHeld ?_
  refine tkS (i := 2) (oi := ⟨some 64, Op.move (Operand.tmp 63), 4, _, _, none⟩) (v := .bool false) rfl (Or.inl ⟨by rfl, fun w hS => by obtain ⟨hS1, hS2⟩ := hS; go_simp⟩) hHeld ?_
  refine tkS (i := 3) (oi := ⟨some 65, Op.move (Operand.tmp 7), 24, _, _, some (2, false)⟩) (v := .int .i64 2) rfl (Or.inl ⟨by rfl, fun w hS => by obtain ⟨hS1, hS2⟩ := hS; go_simp⟩) hHeld ?_
  refine tkS (i := 4) (oi := ⟨some 66, Op.binOp BinOp.eql 24 (Operand.tmp 65) (Operand.const (Value.int IntKind.i64 7)) 24, 4, _, _, some (2, false)⟩) (v := .bool false) rfl (Or.inl ⟨by rfl, fun w hS => by obtain ⟨hS1, hS2⟩ := hS; go_simp⟩) hHeld ?_
  refine tkS (i := 5) (oi := ⟨some 67, Op.pick (Operand.tmp 64) (Operand.const (Value.bool true)) (Operand.tmp 66), 4, _, _, none⟩) (v := .bool false) rfl (Or.inl ⟨by rfl, fun w hS => by obtain ⟨hS1, hS2⟩ := hS; go_simp⟩) hHeld ?_
  refine tkS (i := 6) (oi := ⟨some 68, Op.move (Operand.tmp 67), 4, _, _, none⟩) (v := .bool false) rfl (Or.inl ⟨by rfl, fun w hS => by obtain ⟨hS1, hS2⟩ := hS; go_simp⟩) hHeld ?_
  refine tkS (i := 7) (oi := ⟨some 69, Op.fieldAddr 39 (Operand.tmp 4) 1, 0, _, _, some (6, true)⟩) (v := undef) rfl (Or.inr ⟨by rfl, rfl⟩) hHeld ?_
  refine tkS (i := 8) (oi := ⟨some 70, Op.load 3 (Operand.tmp 69), 3, _, _, some (6, true)⟩) (v := undef) rfl (Or.inr ⟨by rfl, rfl⟩) hHeld ?_
  refine tkS (i := 9) (oi := ⟨some 71, Op.binOp BinOp.geq 3 (Operand.tmp 70) (Operand.const (Value.int IntKind.i64 0)) 3, 4, _, _, some (6, true)⟩) (v := undef) rfl (Or.inr ⟨by rfl, rfl⟩) hHeld ?_
  refine tkS (i := 10) (oi := ⟨some 72, Op.pick (Operand.tmp 68) (Operand.tmp 71) (Operand.const (Value.bool false)), 4, _, _, none⟩) (v := .bool false) rfl (Or.inl ⟨by rfl, fun w hS => by obtain ⟨hS1, hS2⟩ := hS; go_simp⟩) hHeld ?_
  refine tkS (i := 11) (oi := ⟨some 73, Op.move (Operand.tmp 72), 4, _, _, none⟩) (v := .bool false) rfl (Or.inl ⟨by rfl, fun w hS => by obtain ⟨hS1, hS2⟩ := hS; go_simp⟩) hHeld ?_
  refine tkS (i := 12) (oi := ⟨some 74, Op.fieldAddr 39 (Operand.tmp 4) 1, 0, _, _, some (11, true)⟩) (v := undef) rfl (Or.inr ⟨by rfl, rfl⟩) hHeld ?_
  refine tkS (i := 13) (oi := ⟨some 75, Op.load 3 (Operand.tmp 74), 3, _, _, some (11, true)⟩) (v := undef) rfl (Or.inr ⟨by rfl, rfl⟩) hHeld ?_
  refine tkS (i := 14) (oi := ⟨some 76, Op.move (Operand.tmp 0), 34, _, _, some (11, true)⟩) (v := undef) rfl (Or.inr ⟨by rfl, rfl⟩) hHeld ?_
  refine tkS (i := 15) (oi := ⟨some 77, Op.nilCheck (Operand.tmp 76), 0, _, _, some (11, true)⟩) (v := undef) rfl (Or.inr ⟨by rfl, rfl⟩) hHeld ?_
  refine tkS (i := 16) (oi := ⟨some 78, Op.fieldAddr 36 (Operand.tmp 77) 4, 0, _, _, some (11, true)⟩) (v := undef) rfl (Or.inr ⟨by rfl, rfl⟩) hHeld ?_
  refine tkS (i := 17) (oi := ⟨some 79, Op.load 3 (Operand.tmp 78), 3, _, _, some (11, true)⟩) (v := undef) rfl (Or.inr ⟨by rfl, rfl⟩) hHeld ?_
  refine tkS (i := 18) (oi := ⟨some 80, Op.binOp BinOp.lss 3 (Operand.tmp 75) (Operand.tmp 79) 3, 4, _, _, some (11, true)⟩) (v := undef) rfl (Or.inr ⟨by rfl, rfl⟩) hHeld ?_
  refine tkS (i := 19) (oi := ⟨some 81, Op.pick (Operand.tmp 73) (Operand.tmp 80) (Operand.const (Value.bool false)), 4, _, _, none⟩) (v := .bool false) rfl (Or.inl ⟨by rfl, fun w hS => by obtain ⟨hS1, hS2⟩ := hS; go_simp⟩) hHeld ?_
  refine wpAnyH_done (by kernel_rfl) ?_ _
  refine hK10 _ _ ?_
  refine wp_cond_false rfl ?_
  refine wp_skip ?_
  refine hK9 _ _ ?_
  refine wp_seq_k fun K27 hK27 => rgn ?_
  refine VlS (.int .i64 2) ?_
  refine VlS (.bool false) ?_
  refine WL.nil (hK27 _ _ ?_)
  refine wp_cond_false rfl ?_
  refine wp_skip ?_
  refine hK3 _ _ ?_
  refine wp_seq_k fun K28 hK28 => ?_
  refine wp_seq_k fun K29 hK29 => rgn ?_
  refine VlS (.int .i64 2) ?_
  refine VlS (.bool false) ?_
  refine WL.nil (hK29 _ _ ?_)
  refine wp_cond_false rfl ?_
  refine wp_skip ?_
  refine hK28 _ _ ?_
  refine wp_seq_k fun K30 hK30 => ?_
  obtain ⟨pa_, pc_, cj⟩ := L6.out.lenj JX5.out HP.out
  rw [← han.out] at cj
  have HS0 : Keep ((w6.drew).cell? ⟨x, 2, none⟩ = some (ptr j) ∧ (w6.drew).cell? ⟨x, 3, none⟩ = some (.slice aa an ac) ∧ (w6.drew).cell? ⟨j, 1, none⟩ = some (.slice pa_ an pc_)) := ⟨⟨L6.out.bx.drew.c 2 rfl, L6.out.bx.drew.c 3 rfl, cj⟩⟩
  clear cj
  refine wp_region_held_drew (S := fun wx => wx.cell? ⟨x, 2, none⟩ = some (ptr j) ∧ wx.cell? ⟨x, 3, none⟩ = some (.slice aa an ac) ∧ wx.cell? ⟨j, 1, none⟩ = some (.slice pa_ an pc_)) (by kernel_rfl) (HS0.out) (fun hHeld => ?_)
  refine tkS (i := 0) (oi := ⟨some 121, Op.move (Operand.tmp 0), 34, _, _, none⟩) (v := .pointer (some ⟨x, 0, none⟩)) rfl (Or.inl ⟨by rfl, fun w hS => by obtain ⟨hS1, hS2, hS3⟩ := hS; go_simp⟩) hHeld ?_
  refine tkS (i := 1) (oi := ⟨some 122, Op.nilCheck (Operand.tmp 121), 0, _, _, none⟩) (v := .pointer (some ⟨x, 0, none⟩)) rfl (Or.inl ⟨by rfl, fun w hS => by obtain ⟨hS1, hS2, hS3⟩ := hS; go_simp⟩) hHeld ?_
  refine tkS (i := 2) (oi := ⟨some 123, Op.fieldAddr 36 (Operand.tmp 122) 2, 0, _, _, none⟩) (v := .pointer (some ⟨x, 2, none⟩)) rfl (Or.inl ⟨by rfl, fun w hS => by obtain ⟨hS1, hS2, hS3⟩ := hS; go_simp⟩) hHeld ?_
  refine tkS (i := 3) (oi := ⟨some 124, Op.load 22 (Operand.tmp 123), 22, _, _, none⟩) (v := .pointer (some ⟨j, 0, none⟩)) rfl (Or.inl ⟨by rfl, fun w hS => by obtain ⟨hS1, hS2, hS3⟩ := hS; go_simp⟩) hHeld ?_
  refine tkS (i := 5) (oi := ⟨some 126, Op.move (Operand.tmp 0), 34, _, _, none⟩) (v := .pointer (some ⟨x, 0, none⟩)) rfl (Or.inl ⟨by rfl, fun w hS => by obtain ⟨hS1, hS2, hS3⟩ := hS; go_simp⟩) hHeld ?_
  refine tkS (i := 6) (oi := ⟨some 127, Op.nilCheck (Operand.tmp 126), 0, _, _, none⟩) (v := .pointer (some ⟨x, 0, none⟩)) rfl (Or.inl ⟨by rfl, fun w hS => by obtain ⟨hS1, hS2, hS3⟩ := hS; go_simp⟩) hHeld ?_
  refine tkS (i := 7) (oi := ⟨some 128, Op.fieldAddr 36 (Operand.tmp 127) 3, 0, _, _, none⟩) (v := .pointer (some ⟨x, 3, none⟩)) rfl (Or.inl ⟨by rfl, fun w hS => by obtain ⟨hS1, hS2, hS3⟩ := hS; go_simp⟩) hHeld ?_
  refine tkS (i := 8) (oi := ⟨some 129, Op.load 23 (Operand.tmp 128), 23, _, _, none⟩) (v := .slice aa an ac) rfl (Or.inl ⟨by rfl, fun w hS => by obtain ⟨hS1, hS2, hS3⟩ := hS; go_simp⟩) hHeld ?_
  refine tkS (i := 9) (oi := ⟨some 130, Op.call { callee := Callee.builtin Builtin.len, args := #[Operand.tmp 129], argTypes := #[23] }, 3, _, _, none⟩) (v := .int .i64 (an : Int)) rfl (Or.inl ⟨by rfl, fun w hS => by obtain ⟨hS1, hS2, hS3⟩ := hS; go_simp⟩) hHeld ?_
  refine wpAnyH_ready (rs := [4]) (by kernel_rfl) (by simp) ?_
  refine AllReadyH.cons (o := ⟨some 125, Op.call { callee := Callee.value (Operand.func 26), args := #[Operand.tmp 124], argTypes := #[22] }, 3, _, _, none⟩) rfl (fun K hK => ?_) AllReadyH.nil
  rw [if_pos (by rfl)]
  refine wp_callF 26 _ _ rfl Tryd.in26 #[ptr j] (by simp [Act.eval]) (fun vz wz => vz = .int .i64 (an : Int) ∧ wz = w6.drew) ?_ ?_
  ·refine (len_any j pa_ an pc_ w6.drew HS0.out.2.2).mono ?_
   rintro e wz ⟨rfl, rfl⟩
   exact ⟨_, rfl, rfl, rfl⟩
  rintro vz _ ⟨rfl, rfl⟩
  skip
  refine hK _ _ (HS0.out) fun hH9 => ?_
  clear hK
  simp only [Act.put, pqA, pqB, pqC]
  refine tkS (i := 10) (oi := ⟨some 131, Op.binOp BinOp.eql 3 (Operand.tmp 125) (Operand.tmp 130) 3, 4, _, _, none⟩) (v := .bool true) rfl (Or.inl ⟨by rfl, fun w hS => by obtain ⟨hS1, hS2, hS3⟩ := hS; go_simp⟩) hH9 ?_
  refine tkS (i := 11) (oi := ⟨some 6, Op.assign (Operand.tmp 131), 4, _, _, none⟩) (v := .bool true) rfl (Or.inl ⟨by rfl, fun w hS => by obtain ⟨hS1, hS2, hS3⟩ := hS; go_simp⟩) hH9 ?_
  refine wpAnyH_done (by kernel_rfl) ?_ _
  refine hK30 _ _ ?_
  refine wp_ret ?_
  go_ret
  exact ⟨rfl, j, .slice aa an ac, D5, V5, la, sure, all, N5, L6.out.drew, JX5.out, HP.out, by have h8 := HAc.out; omega, G6.out.drew⟩
theorem does_any (B x h d p j : Nat) (vA vk : Value) (kp : List Int) (nn : Int) (ba : Option Addr) (bl : List Int) (bc : Nat) (ka : Option Addr) (kl : List Int) (kc : Nat) (D : DV) (V : JV) (la : Bool) (sure : Nat) (all : List (List Int)) (N : Nat → Prop) (w : World) (hL : LF w B x h d p j vA D V la false sure all N) (hX : JX D V la sure) (hP : V.ps = all) (hK : IntsB w vk kp B) (hKs : IntsB w (.slice ka kl.length kc) kl B) (hR : RowB w (.slice ba bl.length bc) bl B) (hBy : Byts bl) (hn : nn ≤ 9223372036854775807) (hA : D.acts ≤ 4611686018427370000) (kd : Int) : Calls Tryd.prog 11 #[ptr x, .agg #[.int .i64 kd, .int .i64 nn, .slice ba bl.length bc, .slice ka kl.length kc], vk] w (DoPost B x h d p D w) := by
 by_cases h1 : kd = 1
 ·subst h1; exact does_append B x h d p j vA vk kp nn ba bl bc ka kl kc D V la sure all N w hL hX hP hK hKs hR hBy hn hA
 by_cases h2 : kd = 2
 ·subst h2; exact does_sync B x h d p j vA vk kp nn ba bl bc ka kl kc D V la sure all N w hL hX hP hK hKs hR hBy hn hA
 by_cases h3 : kd = 3
 ·subst h3; exact does_keep B x h d p j vA vk kp nn ba bl bc ka kl kc D V la sure all N w hL hX hP hK hKs hR hBy hn hA
 by_cases h4 : kd = 4
 ·subst h4; exact does_fuse B x h d p j vA vk kp nn ba bl bc ka kl kc D V la sure all N w hL hX hP hK hKs hR hBy hn hA
 by_cases h5 : kd = 5
 ·subst h5; exact does_crash B x h d p j vA vk kp nn ba bl bc ka kl kc D V la sure all N w hL hX hP hK hKs hR hBy hn hA
 exact does_other B x h d p j vA vk kp nn ba bl bc ka kl kc D V la sure all N w hL hX hP hK hKs hR hBy hn hA kd ⟨h1, h2, h3, h4, h5⟩
structure SPV where
 kd : Int
 nn : Int
 bl : List Int
 kl : List Int
structure SPX where
 ba : Option Addr
 bc : Nat
 ka : Option Addr
 kc : Nat
def spA (s : SPV) (X : SPX) : Array Value := #[.int .i64 s.kd, .int .i64 s.nn, .slice X.ba s.bl.length X.bc, .slice X.ka s.kl.length X.kc]
def StepsAt (w : World) (v : Value) (ss : List SPV) (B : Nat) : Prop :=
 ∃ X : Nat → SPX, ((∃ a c, v = .slice a 0 c ∧ ss = []) ∨ ∃ q o c, q < B ∧ v = .slice (some ⟨q, o, none⟩) ss.length c ∧ ∀ i s, ss[i]? = some s → w.rangeAt q (o + i * 4) (spA s (X i)).toList) ∧
  ∀ i s, ss[i]? = some s → RowB w (.slice (X i).ba s.bl.length (X i).bc) s.bl B ∧ IntsB w (.slice (X i).ka s.kl.length (X i).kc) s.kl B ∧ Byts s.bl ∧ s.nn ≤ 9223372036854775807
theorem StepsAt.form {w : World} {v : Value} {ss : List SPV} {B : Nat} (h : StepsAt w v ss B) : ∃ a c, v = .slice a ss.length c := by
 obtain ⟨X, ⟨a, c, rfl, rfl⟩ | ⟨q, o, c, _, rfl, _⟩, _⟩ := h
 ·exact ⟨_, _, rfl⟩
 ·exact ⟨_, _, rfl⟩
theorem StepsAt.at {w w' : World} {a : Option Addr} {n c : Nat} {ss : List SPV} {B : Nat} {S : Nat → Prop} (h : StepsAt w (.slice a n c) ss B) (hg : Grown w w' S) (hs : ∀ k, S k → B ≤ k) {i : Nat} {s : SPV} (hi : ss[i]? = some s) : ∃ q o X, a = some ⟨q, o, none⟩ ∧ w'.rangeAt q (o + i * 4) (spA s X).toList ∧ RowB w' (.slice X.ba s.bl.length X.bc) s.bl B ∧ IntsB w' (.slice X.ka s.kl.length X.kc) s.kl B ∧ Byts s.bl ∧ s.nn ≤ 9223372036854775807 := by
 obtain ⟨X, ⟨_, _, _, rfl⟩ | ⟨q, o, c', hq, e, h1⟩, h2⟩ := h
 ·simp at hi
 ·injection e with e1 _ _
  have h3 := h2 i s hi
  exact ⟨q, o, X i, e1, fun j v hv => hg.cell (h1 i s hi j v hv) fun e => by have := hs q e; omega, h3.1.grown hg hs, h3.2.1.grown hg hs, h3.2.2.1, h3.2.2.2⟩
theorem Tryd.newSp (w : World) : (Instr.alloc 39 true (.tuple #[])).run Tryd.prog w = .ok (.pointer (some ⟨w.heap.size, 0, none⟩)) (w.alloc (.cells #[.int .i64 0, .int .i64 0, .slice none 0 0, .slice none 0 0] 39)) := by kernel_rfl
theorem lf_built (h d j : Nat) : Tryd.prog.built 36 [(0, ptr h), (1, ptr d), (2, ptr j)] = some (lfA h d j (.slice none 0 0) 0) := by kernel_rfl
def D00 : DV := ⟨[], 1099511627776, 0, -1, false, 0⟩
theorem jx_begun : JX D00 JV.nil false 0 := by
 have hlk : ∀ n, lk D00.fs n = none := fun n => rfl
 refine ⟨⟨⟨List.Pairwise.nil, by decide, fun f hf => (by cases hf), fun f hf => (by cases hf), rfl, by decide, by decide, by decide⟩, openV_zero (Fk_none (hlk _)), rfl, fun _ _ _ => hlk _, fun f hf => (by cases hf), fun j f _ h => (by rw [hlk] at h; cases h), rfl, fun f hf => (by cases hf)⟩, ?_, fun _ => ?_, (fun h => by cases h), rfl⟩
 ·exact ⟨Nat.le_refl _, fun m f hm _ => by have : (-1 : Int) = (m : Int) := hm; omega⟩
 ·exact ⟨Nat.le_refl _, fun m f hm _ => by have : (-1 : Int) = (m : Int) := hm; omega⟩
set_option maxRecDepth 8000 in
set_option maxHeartbeats 4000000 in
theorem crashes_any (v vk : Value) (ss : List SPV) (kp : List Int) (w : World) (hT : Tab w) (hZ : 0 < w.heap.size) (hS : StepsAt w v ss w.heap.size) (hsl : ss.length ≤ 140737488355328) (hK : IntsB w vk kp w.heap.size) :
  Calls Tryd.prog 4 #[v, vk] w fun e w' => e = .returned (.bool true) ∧ Below w.heap.size w w' := by
 obtain ⟨sa, sc, rfl⟩ := hS.form
 have HT := Keep.mk hT
 have HZ := Keep.mk hZ
 have HS := Keep.mk hS
 have Hsl := Keep.mk hsl
 have HK := Keep.mk hK
 clear hT hZ hS hsl hK
 go_enter Tryd.func4, Tryd.ntmps4
 refine wp_seq_k fun K1 hK1 => rgn ?_
 refine VlS (.bool false) ?_
 refine WL.nil (hK1 _ _ ?_)
 refine wp_seq_k fun K2 hK2 => ?_
 refine wp_seq_k fun K3 hK3 => rgn ?_
 refine WL.callF (by kernel_rfl) 8 _ _ rfl Tryd.in8 #[] (by simp) ?_
 refine (awake_any w HT.out HZ.out).mono ?_
 rintro e w1 ⟨rfl, h1⟩
 refine ⟨_, rfl, ?_⟩
 have B1 := Keep.mk h1
 clear h1
 simp only [Act.put, pqA, pqB, pqC]
 refine VlS (.bool false) ?_
 refine WL.nil (hK3 _ _ ?_)
 refine wp_cond_false rfl ?_
 refine wp_skip ?_
 refine hK2 _ _ ?_
 refine wp_seq_k fun K4 hK4 => rgn ?_
 refine WL.callF (by kernel_rfl) 9 _ _ rfl Tryd.in9 #[.int .i64 1099511627776] (by simp [Act.eval]) ?_
 refine (dnew_any 1099511627776 w1).mono ?_
 rintro e w2 ⟨p, d, h, rfl, h1, h2, h3, h4, h5, h6, h7⟩
 refine ⟨_, rfl, ?_⟩
 have E2 : Keep (DskAt w2 p (.slice none 0 0) [] D00) := ⟨h1⟩
 have P2 := Keep.mk h2
 have H2 := Keep.mk h3
 have L2 : Keep (w.heap.size ≤ p ∧ w.heap.size ≤ d ∧ w.heap.size ≤ h) := ⟨by have := B1.out.size; omega⟩
 have B2 : Keep (Below w.heap.size w w2) := ⟨B1.out.trans (h7.mono B1.out.size)⟩
 clear h1 h2 h3 h4 h5 h6 h7
 simp only [Act.put, pqA, pqB, pqC]
 refine VlS (.tuple #[.pointer (some ⟨d, 0, none⟩), .pointer (some ⟨h, 0, none⟩)]) ?_
 refine VlS (.pointer (some ⟨d, 0, none⟩)) ?_
 refine VlS (.pointer (some ⟨h, 0, none⟩)) ?_
 refine VlS (.pointer (some ⟨d, 0, none⟩)) ?_
 refine VlS (.pointer (some ⟨h, 0, none⟩)) ?_
 refine WL.nil (hK4 _ _ ?_)
 refine wp_seq_k fun K5 hK5 => rgn ?_
 refine VlS (.pointer (some ⟨d, 0, none⟩)) ?_
 refine WL.callF (by kernel_rfl) 7 _ _ rfl Tryd.in7 #[ptr d] (by simp [Act.eval]) ?_
 refine (open_none d p w2 (HT.out.below B2.out HZ.out) (P2.out.c 0 rfl) (E2.out.blk.c 4 rfl) (E2.out.blk.c 0 rfl)).mono ?_
 rintro e w3 ⟨j, pg, rfl, h1, h2, h3⟩
 refine ⟨_, rfl, ?_⟩
 have J3 := Keep.mk h1
 have L3 : Keep (w.heap.size ≤ j) := ⟨by have := B2.out.size; omega⟩
 have E3 := Keep.mk (E2.out.below h3)
 have P3 := Keep.mk (P2.out.below h3 P2.out.lt)
 have H3 := Keep.mk (H2.out.below h3 H2.out.lt)
 have B3 : Keep (Below w.heap.size w w3) := ⟨B2.out.trans (h3.mono B2.out.size)⟩
 clear h1 h2 h3 E2 P2 H2
 simp only [Act.put, pqA, pqB, pqC]
 refine VlS (.tuple #[.pointer (some ⟨j, 0, none⟩), .slice (some ⟨pg, 0, none⟩) 0 0, .int .i64 0]) ?_
 refine VlS (.pointer (some ⟨j, 0, none⟩)) ?_
 refine VlS (.slice (some ⟨pg, 0, none⟩) 0 0) ?_
 refine VlS (.int .i64 0) ?_
 refine VlS (.pointer (some ⟨j, 0, none⟩)) ?_
 refine VlS (.slice (some ⟨pg, 0, none⟩) 0 0) ?_
 refine VlS (.int .i64 0) ?_
 refine WL.nil (hK5 _ _ ?_)
 refine wp_seq_k fun K6 hK6 => ?_
 refine wp_seq_k fun K7 hK7 => rgn ?_
 refine VlS (.int .i64 0) ?_
 refine VlS (.bool false) ?_
 refine VlS (.bool false) ?_
 refine VlS (.pointer (some ⟨j, 0, none⟩)) ?_
 refine VlS (.bool false) ?_
 refine VlS (.bool false) ?_
 refine VlS (.bool false) ?_
 refine VlS (.slice (some ⟨pg, 0, none⟩) 0 0) ?_
 refine VlS (.int .i64 0) ?_
 refine VlS (.bool false) ?_
 refine VlS (.bool false) ?_
 refine WL.nil (hK7 _ _ ?_)
 refine wp_cond_false rfl ?_
 refine wp_skip ?_
 refine hK6 _ _ ?_
 refine wp_seq_k fun K8 hK8 => rgn ?_
 refine VlS (.pointer (some ⟨h, 0, none⟩)) ?_
 refine VlS (.pointer (some ⟨d, 0, none⟩)) ?_
 refine VlS (.pointer (some ⟨j, 0, none⟩)) ?_
 refine WL.bld (by kernel_rfl) 36 _ rfl [(0, ptr h), (1, ptr d), (2, ptr j)] (by simp [Act.eval]) _ (lf_built h d j) ?_
 simp only [Act.put, pqA, pqB, pqC]
 refine WL.box (by kernel_rfl) 36 (.tmp 40) rfl (lfA h d j (.slice none 0 0) 0) rfl ?_
 have hbx := below_new w3 (.cells (lfA h d j (.slice none 0 0) 0) 36)
 have X4 := Keep.mk (Blk.new w3 36 (lfA h d j (.slice none 0 0) 0))
 have E4 := Keep.mk (E3.out.below hbx)
 have P4 := Keep.mk (P3.out.below hbx P3.out.lt)
 have H4 := Keep.mk (H3.out.below hbx H3.out.lt)
 have J4 := Keep.mk (J3.out.below hbx J3.out.lt)
 have B4 : Keep (Below w.heap.size w (w3.alloc (.cells (lfA h d j (.slice none 0 0) 0) 36))) := ⟨B3.out.trans (hbx.mono B3.out.size)⟩
 clear hbx E3 P3 H3 J3
 change WL _ _ _ _ _ (w3.alloc (.cells (lfA h d j (.slice none 0 0) 0) 36))
 generalize w3.alloc (.cells (lfA h d j (.slice none 0 0) 0) 36) = w4 at *
 obtain ⟨x, hx⟩ : ∃ q, Keep (q = w3.heap.size) := ⟨_, ⟨rfl⟩⟩
 rw [← hx.out] at X4 ⊢
 have L4 : Keep (LF w4 w.heap.size x h d p j (.slice none 0 0) D00 JV.nil false false 0 [] (fun k => k = p ∨ k = j)) := ⟨by
  refine ⟨HT.out.below B4.out HZ.out, HZ.out, B4.out.size, X4.out, by rw [hx.out]; exact B3.out.size, H4.out, ⟨P4.out, .slice none 0 0, [], .slice none 0 0, E4.out, J4.out, ownP_nil _, fun k hk => ?_⟩, RwA.nil _ _, fun k hk => by simp [Value.ownBlock] at hk, fun k hk => ?_⟩
  ·rcases hk with (hk | hk | ⟨i, y, hy, _⟩) | hk | hk
   ·exact .inl hk
   ·simp [Value.ownBlock] at hk
   ·simp at hy
   ·exact .inr hk
   ·simp [Value.ownBlock] at hk
  ·have hne : ∀ {b c : Nat} {T U : TypeId}, Typ w4 b T → Typ w4 c U → T ≠ U → b ≠ c := fun h1 h2 h3 e => by subst e; exact h3 (h1.one h2)
   rcases hk with rfl | rfl
   ·exact ⟨L2.out.1, E4.out.blk.lt, hne E4.out.blk.typ X4.out.typ (by decide), hne E4.out.blk.typ H4.out.typ (by decide), hne E4.out.blk.typ P4.out.typ (by decide)⟩
   ·exact ⟨L3.out, J4.out.lt, hne J4.out.typ X4.out.typ (by decide), hne J4.out.typ H4.out.typ (by decide), hne J4.out.typ P4.out.typ (by decide)⟩⟩
 clear hx X4 E4 P4 H4 J4 L2 L3 B1 B2 B3
 simp only [Act.put, pqA, pqB, pqC]
 refine VlS (.pointer (some ⟨x, 0, none⟩)) ?_
 refine WL.nil (hK8 _ _ ?_)
 refine wp_seq_k fun K9 hK9 => ?_
 refine wp_seq_k fun K10 hK10 => rgn ?_
 refine VlS (.slice sa ss.length sc) ?_
 refine VlS (.int .i64 (ss.length : Int)) ?_
 refine VlS (.int .i64 0) ?_
 refine WL.nil (hK10 _ _ ?_)
 refine wp_block ?_
 obtain ⟨j0, hj0⟩ : ∃ z, Keep (z = j) := ⟨_, ⟨rfl⟩⟩
 refine wp_loop (fun acx wr => ∃ (t : Nat) (y4 y12 y13 y45 y46 y47 y48 y49 y50 y51 y52 y53 y54 y55 y56 y57 y58 y59 y60 y61 y62 y63 y64 y65 y66 y67 y68 y69 y70 y71 y72 y73 y74 y75 : Value) (j : Nat) (vA : Value) (D : DV) (V : JV) (la : Bool) (sure : Nat) (all : List (List Int)) (N : Nat → Prop), acx = { tmps := #[.slice sa ss.length sc, vk, undef, undef, y4, .pointer (some ⟨d, 0, none⟩), .pointer (some ⟨h, 0, none⟩), .pointer (some ⟨j0, 0, none⟩), .slice (some ⟨pg, 0, none⟩) 0 0, .int .i64 0, .pointer (some ⟨x, 0, none⟩), undef, y12, y13, .bool true, .bool false, .tuple #[.pointer (some ⟨d, 0, none⟩), .pointer (some ⟨h, 0, none⟩)], .tuple #[.pointer (some ⟨d, 0, none⟩), .pointer (some ⟨h, 0, none⟩)], .pointer (some ⟨d, 0, none⟩), .pointer (some ⟨h, 0, none⟩), .tuple #[.pointer (some ⟨j0, 0, none⟩), .slice (some ⟨pg, 0, none⟩) 0 0, .int .i64 0], .pointer (some ⟨d, 0, none⟩), .tuple #[.pointer (some ⟨j0, 0, none⟩), .slice (some ⟨pg, 0, none⟩) 0 0, .int .i64 0], .pointer (some ⟨j0, 0, none⟩), .slice (some ⟨pg, 0, none⟩) 0 0, .int .i64 0, .int .i64 0, .bool false, .bool false, .pointer (some ⟨j0, 0, none⟩), .bool false, .bool false, .bool false, .slice (some ⟨pg, 0, none⟩) 0 0, .int .i64 0, .bool false, .bool false, .pointer (some ⟨h, 0, none⟩), .pointer (some ⟨d, 0, none⟩), .pointer (some ⟨j0, 0, none⟩), .agg (lfA h d j0 (.slice none 0 0) 0), .pointer (some ⟨x, 0, none⟩), .slice sa ss.length sc, .int .i64 (ss.length : Int), .int .i64 (t : Int), y45, y46, y47, y48, y49, y50, y51, y52, y53, y54, y55, y56, y57, y58, y59, y60, y61, y62, y63, y64, y65, y66, y67, y68, y69, y70, y71, y72, y73, y74, y75, undef, undef, undef], defers := [] } ∧ t ≤ ss.length ∧ LF wr w.heap.size x h d p j vA D V la false sure all N ∧ JX D V la sure ∧ V.ps = all ∧ D.acts ≤ 700 * (t : Int) ∧ Grown w wr fun k => w.heap.size ≤ k) (fun acx _ => ss.length - (intOf (acx.tmps.getD 44 undef)).toNat) ⟨0, .bool false, undef, undef, undef, undef, undef, undef, undef, undef, undef, undef, undef, undef, undef, undef, undef, undef, undef, undef, undef, undef, undef, undef, undef, undef, undef, undef, undef, undef, undef, undef, undef, undef, undef, j, .slice none 0 0, D00, JV.nil, false, 0, [], (fun k => k = p ∨ k = j), by rw [hj0.out]; rfl, Nat.zero_le _, L4.out, jx_begun, rfl, by decide, Grown.below B4.out⟩ ?_
 clear L4 B4 hj0
 rintro acx wr ⟨t, y4, y12, y13, y45, y46, y47, y48, y49, y50, y51, y52, y53, y54, y55, y56, y57, y58, y59, y60, y61, y62, y63, y64, y65, y66, y67, y68, y69, y70, y71, y72, y73, y74, y75, j, vA, D, V, la, sure, all, N, rfl, ht, h1, h2, h3, h4, h5⟩
 obtain ⟨aa, ac, rfl⟩ := h1.ra.form
 obtain ⟨an, han⟩ : ∃ z, Keep (z = all.length) := ⟨_, ⟨rfl⟩⟩
 rw [← han.out] at h1
 have LR := Keep.mk h1
 have XR := Keep.mk h2
 have PR := Keep.mk h3
 have AR := Keep.mk h4
 have GR := Keep.mk h5
 clear h1 h2 h3 h4 h5
 by_cases hlt : t < ss.length
 ·have hlt' : (t : Int) < (ss.length : Int) := by omega
  have hwt : IntKind.i64.wrap ((t : Int) + 1) = (t : Int) + 1 := by rw [IntKind.wrap_i64]; have := Hsl.out; omega
  obtain ⟨sq, so, sX, hq, hrg, hrb, hib, hby, hnn⟩ := HS.out.at GR.out (fun _ h => h) (List.getElem?_eq_getElem hlt)
  subst hq
  obtain ⟨ba, bc, ka, kc⟩ := sX
  generalize ss[t] = sv at *
  obtain ⟨kd, nn, bl, kl⟩ := sv
  have HRg : Keep (wr.rangeAt sq (so + t * 4) (#[.int .i64 kd, .int .i64 nn, .slice ba bl.length bc, .slice ka kl.length kc] : Array Value).toList) := ⟨hrg⟩
  have HRb : Keep (RowB wr (.slice ba bl.length bc) bl w.heap.size) := ⟨hrb⟩
  have HIb : Keep (IntsB wr (.slice ka kl.length kc) kl w.heap.size) := ⟨hib⟩
  have HBy : Keep (Byts bl) := ⟨hby⟩
  have HNn : Keep (nn ≤ 9223372036854775807) := ⟨hnn⟩
  have HKr := Keep.mk (HK.out.grown GR.out fun _ h => h)
  clear hrg hrb hib hby hnn
  refine wp_seq_k fun K11 hK11 => rgn ?_
  refine VlS (.bool true) ?_
  refine WL.nil (hK11 _ _ ?_)
  refine wp_seq_k fun K12 hK12 => ?_
  refine wp_cond_true rfl ?_
  refine wp_skip ?_
  refine hK12 _ _ ?_
  refine wp_seq_k fun K13 hK13 => ?_
  refine wp_block ?_
  refine wp_seq_k fun K14 hK14 => rgn ?_
  refine VlS (.pointer (some ⟨sq, so + t * 4, none⟩)) ?_
  refine WL.midA (by kernel_rfl) 39 (.tmp 46) rfl sq (so + t * 4) rfl #[.int .i64 kd, .int .i64 nn, .slice ba bl.length bc, .slice ka kl.length kc] _ HRg.out Tryd.underlying39 rfl (by kernel_rfl) ?_
  simp only [Act.put, pqA, pqB, pqC]
  refine WL.new (by kernel_rfl) 39 rfl _ Tryd.newSp ?_
  have HQ0 := Keep.mk (Blk.new wr 39 #[.int .i64 0, .int .i64 0, .slice none 0 0, .slice none 0 0])
  have B2 := Keep.mk (below_new wr (.cells #[.int .i64 0, .int .i64 0, .slice none 0 0, .slice none 0 0] 39))
  change WL _ _ _ _ _ (wr.alloc (.cells #[.int .i64 0, .int .i64 0, .slice none 0 0, .slice none 0 0] 39))
  generalize wr.alloc (.cells #[.int .i64 0, .int .i64 0, .slice none 0 0, .slice none 0 0] 39) = w2 at *
  obtain ⟨q, hq⟩ : ∃ p, Keep (p = wr.heap.size) := ⟨_, ⟨rfl⟩⟩
  rw [← hq.out] at HQ0 ⊢
  simp only [Act.put, pqA, pqB, pqC]
  refine WL.storeR (by kernel_rfl) 39 (.tmp 12) (.tmp 47) rfl q #[.int .i64 kd, .int .i64 nn, .slice ba bl.length bc, .slice ka kl.length kc] rfl rfl 39 #[.int .i64 0, .int .i64 0, .slice none 0 0, .slice none 0 0] HQ0.out (by kernel_rfl) rfl (by kernel_rfl) ?_
  have HQ := Keep.mk (HQ0.out.setRow #[.int .i64 kd, .int .i64 nn, .slice ba bl.length bc, .slice ka kl.length kc])
  have B3 : Keep (Below wr.heap.size wr (w2.setRow q #[.int .i64 kd, .int .i64 nn, .slice ba bl.length bc, .slice ka kl.length kc])) := ⟨below_setRow B2.out (by rw [hq.out]; exact Nat.le_refl _) _⟩
  clear HQ0 B2 HRg
  generalize w2.setRow q #[.int .i64 kd, .int .i64 nn, .slice ba bl.length bc, .slice ka kl.length kc] = w3 at *
  have L3 := Keep.mk (LR.out.below B3.out)
  have G3 : Keep (Grown w w3 fun k => w.heap.size ≤ k) := ⟨GR.out.trans (Grown.below B3.out)⟩
  have hgb : Grown wr w3 fun k => w.heap.size ≤ k := Grown.below B3.out
  have R3 := Keep.mk (HRb.out.grown hgb fun _ h => h)
  have I3 := Keep.mk (HIb.out.grown hgb fun _ h => h)
  have K3 := Keep.mk (HKr.out.grown hgb fun _ h => h)
  have HqN : Keep (¬ N q) := ⟨fun e => by have := (LR.out.nl q e).2.1; rw [hq.out] at this; omega⟩
  clear hgb LR GR HRb HIb HKr B3
  have c3 := L3.out.bx.c 3 (by rfl : (lfA h d j (.slice aa an ac) sure)[3]? = some (.slice aa an ac))
  have q0 := HQ.out.c 0 (by rfl : (#[.int .i64 kd, .int .i64 nn, .slice ba bl.length bc, .slice ka kl.length kc] : Array Value)[0]? = some (.int .i64 kd))
  have q1 := HQ.out.c 1 (by rfl : (#[.int .i64 kd, .int .i64 nn, .slice ba bl.length bc, .slice ka kl.length kc] : Array Value)[1]? = some (.int .i64 nn))
  simp only [Act.put]
  refine WL.nil (hK14 _ _ ?_)
  refine wp_seq_k fun K15 hK15 => rgn ?_
  refine VlS (.pointer (some ⟨x, 0, none⟩)) ?_
  refine VlS (.pointer (some ⟨x, 0, none⟩)) ?_
  refine VlS (.pointer (some ⟨x, 3, none⟩)) ?_
  refine VlS (.slice aa an ac) ?_
  refine VlS (.int .i64 (an : Int)) ?_
  refine VlS (.int .i64 (an : Int)) ?_
  refine WL.nil (hK15 _ _ ?_)
  refine wp_seq_k fun K16 hK16 => ?_
  refine wp_seq_k fun K17 hK17 => ?_
  rcases Decidable.em (kd = 3) with hk3 | hk3
  ·subst hk3
   rcases Decidable.em ((an : Int) < nn) with hnl | hnl
   ·refine rgn ?_
    refine VlS (.pointer (some ⟨q, 0, none⟩)) ?_
    refine VlS (.int .i64 3) ?_
    refine VlS (.bool true) ?_
    refine VlS (.bool true) ?_
    refine VlS (.pointer (some ⟨q, 1, none⟩)) ?_
    refine VlS (.int .i64 nn) ?_
    refine VlS (.int .i64 (an : Int)) ?_
    refine VlS (.bool true) ?_
    refine VlS (.bool true) ?_
    refine WL.nil (hK17 _ _ ?_)
    refine wp_cond_true rfl ?_
    refine wp_seq_k fun K18 hK18 => ?_
    refine wp_seq_k fun K19 hK19 => ?_
    clear c3 q0 q1
    have L5 := Keep.mk L3.out.drew
    have HS0 : Keep ((w3.drew).cell? ⟨x, 2, none⟩ = some (ptr j) ∧ (w3.drew).cell? ⟨q, 1, none⟩ = some (.int .i64 nn)) := ⟨⟨L5.out.bx.c 2 rfl, HQ.out.drew.c 1 rfl⟩⟩
    refine wp_region_held_drew (S := fun wx => wx.cell? ⟨x, 2, none⟩ = some (ptr j) ∧ wx.cell? ⟨q, 1, none⟩ = some (.int .i64 nn)) (by kernel_rfl) (HS0.out) (fun hHeld => ?_)
    refine tkS (i := 0) (oi := ⟨some 62, Op.move (Operand.tmp 10), 34, _, _, none⟩) (v := .pointer (some ⟨x, 0, none⟩)) rfl (Or.inl ⟨by rfl, fun w hS => by obtain ⟨hS1, hS2⟩ := hS; go_simp⟩) hHeld ?_
    refine tkS (i := 1) (oi := ⟨some 63, Op.nilCheck (Operand.tmp 62), 0, _, _, none⟩) (v := .pointer (some ⟨x, 0, none⟩)) rfl (Or.inl ⟨by rfl, fun w hS => by obtain ⟨hS1, hS2⟩ := hS; go_simp⟩) hHeld ?_
    refine tkS (i := 2) (oi := ⟨some 64, Op.fieldAddr 36 (Operand.tmp 63) 2, 0, _, _, none⟩) (v := .pointer (some ⟨x, 2, none⟩)) rfl (Or.inl ⟨by rfl, fun w hS => by obtain ⟨hS1, hS2⟩ := hS; go_simp⟩) hHeld ?_
    refine tkS (i := 3) (oi := ⟨some 65, Op.load 22 (Operand.tmp 64), 22, _, _, none⟩) (v := .pointer (some ⟨j, 0, none⟩)) rfl (Or.inl ⟨by rfl, fun w hS => by obtain ⟨hS1, hS2⟩ := hS; go_simp⟩) hHeld ?_
    refine tkS (i := 4) (oi := ⟨some 66, Op.fieldAddr 39 (Operand.tmp 12) 1, 0, _, _, none⟩) (v := .pointer (some ⟨q, 1, none⟩)) rfl (Or.inl ⟨by rfl, fun w hS => by obtain ⟨hS1, hS2⟩ := hS; go_simp⟩) hHeld ?_
    refine tkS (i := 5) (oi := ⟨some 67, Op.load 3 (Operand.tmp 66), 3, _, _, none⟩) (v := .int .i64 nn) rfl (Or.inl ⟨by rfl, fun w hS => by obtain ⟨hS1, hS2⟩ := hS; go_simp⟩) hHeld ?_
    refine wpAnyH_ready (rs := [6]) (by kernel_rfl) (by simp) ?_
    refine AllReadyH.cons (o := ⟨some 68, Op.call { callee := Callee.value (Operand.func 10), args := #[Operand.tmp 65, Operand.tmp 67], argTypes := #[22, 3] }, 24, _, _, none⟩) rfl (fun K hK => ?_) AllReadyH.nil
    rw [if_pos (by rfl)]
    refine wp_callF 10 _ _ rfl Tryd.in10 #[ptr j, .int .i64 nn] (by simp [Act.eval]) (fun vz wz => vz = .int .i64 2 ∧ ∃ D', JDN wz j d p D' V la false (JN2 N w3.drew.heap.size wz.heap.size) ∧ Grown w3.drew wz N ∧ D'.acts ≤ D.acts + 300 ∧ JX D' V la sure) ?_ ?_
    ·refine (keep_any j d p nn D V la sure N w3.drew L5.out.tab L5.out.jd (fun k hk => (L5.out.nl k hk).2.1) (fun e => by have := (L5.out.nl 0 e).1; have := HZ.out; omega) (fun e => (L5.out.nl d e).2.2.2.2 rfl) XR.out (by have := AR.out; have := Hsl.out; omega)).mono ?_
     rintro e wz ⟨ee, D', V', de', rfl, h1, h2, h3, h4⟩
     exact by
      rcases h4 with ⟨_, _, _, h4, _⟩ | ⟨_, _, h4, _⟩ | ⟨rfl, _, rfl, rfl, h4⟩
      ·rw [PR.out, ← han.out] at h4; omega
      ·rw [PR.out, ← han.out] at h4; omega
      ·exact ⟨_, rfl, rfl, D', h1, h2, h3.2, h4⟩
    rintro vz w6 ⟨rfl, D6, h1, h2, h3, h4⟩
    have L6 := Keep.mk (L5.out.step h1 h2)
    have X6 := Keep.mk h4
    have A6 : Keep (D6.acts ≤ 700 * ((t + 1 : Nat) : Int)) := ⟨by have := AR.out; push_cast; omega⟩
    have G6 : Keep (Grown w w6 fun k => w.heap.size ≤ k) := ⟨G3.out.drew.next h2 fun k _ e => (L5.out.nl k e).1⟩
    have Q6 := Keep.mk (h2.blk HQ.out.drew HqN.out)
    clear h1 h2 h3 h4
    refine hK _ _ (⟨L6.out.bx.c 2 rfl, Q6.out.c 1 rfl⟩) fun hH6 => ?_
    clear hK
    simp only [Act.put, pqA, pqB, pqC]
    refine tkS (i := 7) (oi := ⟨some 69, Op.binOp BinOp.neq 24 (Operand.tmp 68) (Operand.const (Value.int IntKind.i64 2)) 24, 4, _, _, none⟩) (v := .bool false) rfl (Or.inl ⟨by rfl, fun w hS => by obtain ⟨hS1, hS2⟩ := hS; go_simp⟩) hH6 ?_
    refine wpAnyH_done (by kernel_rfl) ?_ _
    refine hK19 _ _ ?_
    refine wp_cond_false rfl ?_
    refine wp_skip ?_
    refine hK18 _ _ ?_
    refine wp_exit ?_
    refine hK13 _ _ ?_
    refine rgn ?_
    refine VlS (.int .i64 ((t : Int) + 1)) ?_
    refine VlS (.int .i64 ((t : Int) + 1)) ?_
    refine WL.nil ?_
    refine ⟨⟨t + 1, y4, .pointer (some ⟨q, 0, none⟩), .int .i64 (an : Int), .bool true, .pointer (some ⟨sq, so + t * 4, none⟩), .agg #[.int .i64 3, .int .i64 nn, .slice ba bl.length bc, .slice ka kl.length kc], .pointer (some ⟨x, 0, none⟩), .pointer (some ⟨x, 0, none⟩), .pointer (some ⟨x, 3, none⟩), .slice aa an ac, .int .i64 (an : Int), .pointer (some ⟨q, 0, none⟩), .int .i64 3, .bool true, .bool true, .pointer (some ⟨q, 1, none⟩), .int .i64 nn, .int .i64 (an : Int), .bool true, .bool true, .pointer (some ⟨x, 0, none⟩), .pointer (some ⟨x, 0, none⟩), .pointer (some ⟨x, 2, none⟩), .pointer (some ⟨j, 0, none⟩), .pointer (some ⟨q, 1, none⟩), .int .i64 nn, .int .i64 2, .bool false, y70, y71, y72, y73, y74, .int .i64 ((t : Int) + 1), j, .slice aa an ac, D6, V, la, sure, all, _, rfl, by omega, L6.out, X6.out, PR.out, by exact A6.out, G6.out⟩, by simp only [intOf]; show ss.length - ((t : Int) + 1).toNat < ss.length - ((t : Int)).toNat; omega⟩
   ·refine rgn ?_
    refine VlS (.pointer (some ⟨q, 0, none⟩)) ?_
    refine VlS (.int .i64 3) ?_
    refine VlS (.bool true) ?_
    refine VlS (.bool true) ?_
    refine VlS (.pointer (some ⟨q, 1, none⟩)) ?_
    refine VlS (.int .i64 nn) ?_
    refine VlS (.int .i64 (an : Int)) ?_
    refine VlS (.bool false) ?_
    refine VlS (.bool false) ?_
    refine WL.nil (hK17 _ _ ?_)
    refine wp_cond_false rfl ?_
    refine wp_skip ?_
    refine hK16 _ _ ?_
    refine wp_seq_k fun K20 hK20 => ?_
    clear c3 q0 q1
    refine rgn ?_
    refine VlS (.pointer (some ⟨x, 0, none⟩)) ?_
    refine WL.row (by kernel_rfl) 39 (.tmp 12) rfl q rfl 39 #[.int .i64 3, .int .i64 nn, .slice ba bl.length bc, .slice ka kl.length kc] _ HQ.out Tryd.underlying39 rfl (by kernel_rfl) ?_
    simp only [Act.put, pqA, pqB, pqC]
    refine VlS (vk) ?_
    refine WL.callF (by kernel_rfl) 11 _ _ rfl Tryd.in11 #[ptr x, .agg #[.int .i64 3, .int .i64 nn, .slice ba bl.length bc, .slice ka kl.length kc], vk] (by simp [Act.eval]) ?_
    refine (does_any w.heap.size x h d p j (.slice aa an ac) vk kp nn ba bl bc ka kl kc D V la sure all N w3 L3.out XR.out PR.out K3.out I3.out R3.out HBy.out HNn.out (by have := AR.out; have := Hsl.out; omega) 3).mono ?_
    rintro e w6 ⟨rfl, j6, vA6, D6, V6, la6, sure6, all6, N6, a1, a2, a3, a4, a5⟩
    refine ⟨_, rfl, ?_⟩
    have L6 := Keep.mk a1
    have X6 := Keep.mk a2
    have P6 := Keep.mk a3
    have A6 : Keep (D6.acts ≤ 700 * ((t + 1 : Nat) : Int)) := ⟨by have := AR.out; push_cast; omega⟩
    have G6 : Keep (Grown w w6 fun k => w.heap.size ≤ k) := ⟨G3.out.trans a5⟩
    clear a1 a2 a3 a4 a5
    simp only [Act.put, pqA, pqB, pqC]
    refine VlS (.bool false) ?_
    refine WL.nil (hK20 _ _ ?_)
    refine wp_cond_false rfl ?_
    refine wp_skip ?_
    refine hK13 _ _ ?_
    refine rgn ?_
    refine VlS (.int .i64 ((t : Int) + 1)) ?_
    refine VlS (.int .i64 ((t : Int) + 1)) ?_
    refine WL.nil ?_
    refine ⟨⟨t + 1, y4, .pointer (some ⟨q, 0, none⟩), .int .i64 (an : Int), .bool true, .pointer (some ⟨sq, so + t * 4, none⟩), .agg #[.int .i64 3, .int .i64 nn, .slice ba bl.length bc, .slice ka kl.length kc], .pointer (some ⟨x, 0, none⟩), .pointer (some ⟨x, 0, none⟩), .pointer (some ⟨x, 3, none⟩), .slice aa an ac, .int .i64 (an : Int), .pointer (some ⟨q, 0, none⟩), .int .i64 3, .bool true, .bool true, .pointer (some ⟨q, 1, none⟩), .int .i64 nn, .int .i64 (an : Int), .bool false, .bool false, y62, y63, y64, y65, y66, y67, y68, y69, .pointer (some ⟨x, 0, none⟩), .agg #[.int .i64 3, .int .i64 nn, .slice ba bl.length bc, .slice ka kl.length kc], vk, .bool true, .bool false, .int .i64 ((t : Int) + 1), j6, vA6, D6, V6, la6, sure6, all6, N6, rfl, by omega, L6.out, X6.out, P6.out, by exact A6.out, G6.out⟩, by simp only [intOf]; show ss.length - ((t : Int) + 1).toNat < ss.length - ((t : Int)).toNat; omega⟩
  ·refine rgn ?_
   refine VlS (.pointer (some ⟨q, 0, none⟩)) ?_
   refine VlS (.int .i64 kd) ?_
   refine VlS (.bool false) ?_
   refine VlS (.bool false) ?_
   refine SkS ?_
   refine SkS ?_
   refine SkS ?_
   refine SkS ?_
   refine VlS (.bool false) ?_
   refine WL.nil (hK17 _ _ ?_)
   refine wp_cond_false rfl ?_
   refine wp_skip ?_
   refine hK16 _ _ ?_
   refine wp_seq_k fun K21 hK21 => ?_
   clear c3 q0 q1
   refine rgn ?_
   refine VlS (.pointer (some ⟨x, 0, none⟩)) ?_
   refine WL.row (by kernel_rfl) 39 (.tmp 12) rfl q rfl 39 #[.int .i64 kd, .int .i64 nn, .slice ba bl.length bc, .slice ka kl.length kc] _ HQ.out Tryd.underlying39 rfl (by kernel_rfl) ?_
   simp only [Act.put, pqA, pqB, pqC]
   refine VlS (vk) ?_
   refine WL.callF (by kernel_rfl) 11 _ _ rfl Tryd.in11 #[ptr x, .agg #[.int .i64 kd, .int .i64 nn, .slice ba bl.length bc, .slice ka kl.length kc], vk] (by simp [Act.eval]) ?_
   refine (does_any w.heap.size x h d p j (.slice aa an ac) vk kp nn ba bl bc ka kl kc D V la sure all N w3 L3.out XR.out PR.out K3.out I3.out R3.out HBy.out HNn.out (by have := AR.out; have := Hsl.out; omega) kd).mono ?_
   rintro e w6 ⟨rfl, j6, vA6, D6, V6, la6, sure6, all6, N6, a1, a2, a3, a4, a5⟩
   refine ⟨_, rfl, ?_⟩
   have L6 := Keep.mk a1
   have X6 := Keep.mk a2
   have P6 := Keep.mk a3
   have A6 : Keep (D6.acts ≤ 700 * ((t + 1 : Nat) : Int)) := ⟨by have := AR.out; push_cast; omega⟩
   have G6 : Keep (Grown w w6 fun k => w.heap.size ≤ k) := ⟨G3.out.trans a5⟩
   clear a1 a2 a3 a4 a5
   simp only [Act.put, pqA, pqB, pqC]
   refine VlS (.bool false) ?_
   refine WL.nil (hK21 _ _ ?_)
   refine wp_cond_false rfl ?_
   refine wp_skip ?_
   refine hK13 _ _ ?_
   refine rgn ?_
   refine VlS (.int .i64 ((t : Int) + 1)) ?_
   refine VlS (.int .i64 ((t : Int) + 1)) ?_
   refine WL.nil ?_
   refine ⟨⟨t + 1, y4, .pointer (some ⟨q, 0, none⟩), .int .i64 (an : Int), .bool true, .pointer (some ⟨sq, so + t * 4, none⟩), .agg #[.int .i64 kd, .int .i64 nn, .slice ba bl.length bc, .slice ka kl.length kc], .pointer (some ⟨x, 0, none⟩), .pointer (some ⟨x, 0, none⟩), .pointer (some ⟨x, 3, none⟩), .slice aa an ac, .int .i64 (an : Int), .pointer (some ⟨q, 0, none⟩), .int .i64 kd, .bool false, .bool false, undef, undef, undef, undef, .bool false, y62, y63, y64, y65, y66, y67, y68, y69, .pointer (some ⟨x, 0, none⟩), .agg #[.int .i64 kd, .int .i64 nn, .slice ba bl.length bc, .slice ka kl.length kc], vk, .bool true, .bool false, .int .i64 ((t : Int) + 1), j6, vA6, D6, V6, la6, sure6, all6, N6, rfl, by omega, L6.out, X6.out, P6.out, by exact A6.out, G6.out⟩, by simp only [intOf]; show ss.length - ((t : Int) + 1).toNat < ss.length - ((t : Int)).toNat; omega⟩
 ·have htl' : ¬ (t : Int) < (ss.length : Int) := by omega
  have HKr := Keep.mk (HK.out.grown GR.out fun _ h => h)
  refine wp_seq_k fun K22 hK22 => rgn ?_
  refine VlS (.bool false) ?_
  refine WL.nil (hK22 _ _ ?_)
  refine wp_seq_k fun K23 hK23 => ?_
  refine wp_cond_false rfl ?_
  refine wp_exit ?_
  refine hK9 _ _ ?_
  refine wp_seq_k fun K24 hK24 => rgn ?_
  refine VlS (.pointer (some ⟨x, 0, none⟩)) ?_
  refine VlS (vk) ?_
  refine WL.callF (by kernel_rfl) 12 _ _ rfl Tryd.in12 #[ptr x, vk] (by simp [Act.eval]) ?_
  refine (again_life w.heap.size x h d p j (.slice aa an ac) vk kp D V la false sure all N wr LR.out (by have h := XR.out.ji.cr XR.out.su; rw [PR.out] at h; exact h) HKr.out (by have := AR.out; have := Hsl.out; omega) (by have := XR.out.ji.few.1; rw [PR.out] at this; omega)).mono ?_
  rintro e w9 ⟨rfl, j9, vA9, D9, V9, k9, N9, _, _, _, _, _, _, a7⟩
  refine ⟨_, rfl, ?_⟩
  have A7 := Keep.mk a7
  clear a7
  simp only [Act.put, pqA, pqB, pqC]
  refine VlS (.bool true) ?_
  refine WL.nil (hK24 _ _ ?_)
  refine wp_ret ?_
  go_ret
  exact ⟨rfl, (GR.out.trans A7.out).to_below (fun k hk e => by omega) (Nat.le_refl _)⟩
end Go.Proofs.YtennogmeeefopaaDoor
