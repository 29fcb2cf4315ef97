import Derived.Test.YtennogmeeefopaaDoorA16
import Derived.Deep.RegionHeld3
import Derived.Lib.Small
namespace Go.Proofs.YtennogmeeefopaaDoor
open Go.RowKit
set_option linter.unusedSimpArgs false
set_option linter.unusedVariables false

set_option maxRecDepth 8000 in
set_option maxHeartbeats 4000000 in
theorem does_append (B x h d p j : Nat) (vA vk : Value) (kp : List Int) (nn : Int) (ba : Option Addr) (bl : List Int) (bc : Nat) (ka : Option Addr) (kl : List Int) (kc : Nat) (D : DV) (V : JV) (la : Bool) (sure : Nat) (all : List (List Int)) (N : Nat → Prop) (w : World) (hL : LF w B x h d p j vA D V la false sure all N) (hX : JX D V la sure) (hP : V.ps = all) (hK : IntsB w vk kp B) (hKs : IntsB w (.slice ka kl.length kc) kl B) (hR : RowB w (.slice ba bl.length bc) bl B) (hBy : Byts bl) (hn : nn ≤ 9223372036854775807) (hA : D.acts ≤ 4611686018427370000) : Calls Tryd.prog 11 #[ptr x, .agg #[.int .i64 1, .int .i64 nn, .slice ba bl.length bc, .slice ka kl.length kc], vk] w (DoPost B x h d p D w) := by
 obtain ⟨aa, ac, rfl⟩ := hL.ra.form
 obtain ⟨an, han⟩ : ∃ z, Keep (z = all.length) := ⟨_, ⟨rfl⟩⟩
 rw [← han.out] at hL
 have Hal : Keep (all.length ≤ 285216768) := ⟨by rw [← hP]; exact hX.ji.few.1⟩
 have HL := Keep.mk hL
 have HX := Keep.mk hX
 have HP := Keep.mk hP
 have HK := Keep.mk hK
 have HKs := Keep.mk hKs
 have HR := Keep.mk hR
 have HBy := Keep.mk hBy
 have Hn := Keep.mk hn
 have HA := Keep.mk hA
 have HNx : Keep (¬ N x ∧ ¬ N 0 ∧ ¬ N d) := ⟨fun e => (hL.nl x e).2.2.1 rfl, fun e => by have := (hL.nl 0 e).1; have := hL.pos; omega, fun e => (hL.nl d e).2.2.2.2 rfl⟩
 clear hL hX hP hK hKs hR hBy hn hA
 go_enter Tryd.func11, Tryd.ntmps11
 refine wp_seq_k fun K1 hK1 => rgn ?_
 refine WL.box (by kernel_rfl) 39 (.tmp 1) rfl #[.int .i64 1, .int .i64 nn, .slice ba bl.length bc, .slice ka kl.length kc] rfl ?_
 have hbx := below_new w (.cells #[.int .i64 1, .int .i64 nn, .slice ba bl.length bc, .slice ka kl.length kc] 39)
 have Q1 := Keep.mk (Blk.new w 39 #[.int .i64 1, .int .i64 nn, .slice ba bl.length bc, .slice ka kl.length kc])
 have L1 := Keep.mk (HL.out.below hbx)
 have I1 := Keep.mk (HK.out.grown (Grown.below (S := fun k => B ≤ k) hbx) fun _ h => h)
 have IB1 := Keep.mk (HKs.out.grown (Grown.below (S := fun k => B ≤ k) hbx) fun _ h => h)
 have R1 := Keep.mk (HR.out.grown (Grown.below (S := fun k => B ≤ k) hbx) fun _ h => h)
 have GB1 : Keep (Grown w (w.alloc (.cells #[.int .i64 1, .int .i64 nn, .slice ba bl.length bc, .slice ka kl.length kc] 39)) fun k => B ≤ k) := ⟨Grown.below hbx⟩
 clear hbx
 change WL _ _ _ _ _ (w.alloc (.cells #[.int .i64 1, .int .i64 nn, .slice ba bl.length bc, .slice ka kl.length kc] 39))
 generalize w.alloc (.cells #[.int .i64 1, .int .i64 nn, .slice ba bl.length bc, .slice ka kl.length kc] 39) = w1 at *
 obtain ⟨q, hq⟩ : ∃ q, Keep (q = w.heap.size) := ⟨_, ⟨rfl⟩⟩
 rw [← hq.out] at Q1 ⊢
 have HqN : Keep (¬ N q) := ⟨fun e => by have := (HL.out.nl q e).2.1; rw [hq.out] at this; omega⟩
 have c0 := Q1.out.c 0 (by rfl : (#[.int .i64 1, .int .i64 nn, .slice ba bl.length bc, .slice ka kl.length kc] : Array Value)[0]? = some (.int .i64 1))
 simp only [Act.put, pqA, pqB, pqC]
 refine VlS (.bool false) ?_
 refine WL.nil (hK1 _ _ ?_)
 refine wp_seq_k fun K2 hK2 => rgn ?_
 refine VlS (.int .i64 0) ?_
 refine WL.nil (hK2 _ _ ?_)
 refine wp_seq_k fun K3 hK3 => ?_
 refine wp_seq_k fun K4 hK4 => rgn ?_
 refine VlS (.pointer (some ⟨q, 0, none⟩)) ?_
 refine VlS (.int .i64 1) ?_
 refine WL.nil (hK4 _ _ ?_)
 refine wp_block ?_
 refine wp_seq_k fun K5 hK5 => rgn ?_
 refine VlS (.bool true) ?_
 refine VlS (.bool true) ?_
 refine WL.nil (hK5 _ _ ?_)
 refine wp_cond_true rfl ?_
 refine wp_seq_k fun K6 hK6 => ?_
 clear c0
 have L2 := Keep.mk L1.out.drew
 have HS0 : Keep ((w1.drew).cell? ⟨x, 2, none⟩ = some (ptr j) ∧ (w1.drew).cell? ⟨q, 2, none⟩ = some (.slice ba bl.length bc)) := ⟨⟨L2.out.bx.c 2 rfl, Q1.out.drew.c 2 rfl⟩⟩
 refine wp_region_held_drew (S := fun wx => wx.cell? ⟨x, 2, none⟩ = some (ptr j) ∧ wx.cell? ⟨q, 2, none⟩ = some (.slice ba bl.length bc)) (by kernel_rfl) (HS0.out) (fun hHeld => ?_)
 refine tkS (i := 0) (oi := ⟨some 12, Op.move (Operand.tmp 0), 34, _, _, none⟩) (v := .pointer (some ⟨x, 0, none⟩)) rfl (Or.inl ⟨by rfl, fun w hS => by obtain ⟨hS1, hS2⟩ := hS; go_simp⟩) hHeld ?_
 refine tkS (i := 1) (oi := ⟨some 13, Op.nilCheck (Operand.tmp 12), 0, _, _, none⟩) (v := .pointer (some ⟨x, 0, none⟩)) rfl (Or.inl ⟨by rfl, fun w hS => by obtain ⟨hS1, hS2⟩ := hS; go_simp⟩) hHeld ?_
 refine tkS (i := 2) (oi := ⟨some 14, Op.fieldAddr 36 (Operand.tmp 13) 2, 0, _, _, none⟩) (v := .pointer (some ⟨x, 2, none⟩)) rfl (Or.inl ⟨by rfl, fun w hS => by obtain ⟨hS1, hS2⟩ := hS; go_simp⟩) hHeld ?_
 refine tkS (i := 3) (oi := ⟨some 15, Op.load 22 (Operand.tmp 14), 22, _, _, none⟩) (v := .pointer (some ⟨j, 0, none⟩)) rfl (Or.inl ⟨by rfl, fun w hS => by obtain ⟨hS1, hS2⟩ := hS; go_simp⟩) hHeld ?_
 refine tkS (i := 4) (oi := ⟨some 16, Op.fieldAddr 39 (Operand.tmp 4) 2, 0, _, _, none⟩) (v := .pointer (some ⟨q, 2, none⟩)) rfl (Or.inl ⟨by rfl, fun w hS => by obtain ⟨hS1, hS2⟩ := hS; go_simp⟩) hHeld ?_
 refine tkS (i := 5) (oi := ⟨some 17, Op.load 37 (Operand.tmp 16), 37, _, _, none⟩) (v := .slice ba bl.length bc) rfl (Or.inl ⟨by rfl, fun w hS => by obtain ⟨hS1, hS2⟩ := hS; go_simp⟩) hHeld ?_
 refine wpAnyH_ready (rs := [6]) (by kernel_rfl) (by simp) ?_
 refine AllReadyH.cons (o := ⟨some 18, Op.call { callee := Callee.value (Operand.func 24), args := #[Operand.tmp 15, Operand.tmp 17], argTypes := #[22, 37] }, 24, _, _, none⟩) rfl (fun K hK => ?_) AllReadyH.nil
 rw [if_pos (by rfl)]
 refine wp_callF 24 _ _ rfl Tryd.in24 #[ptr j, .slice ba bl.length bc] (by simp [Act.eval]) (fun vz wz => ∃ (ee : Int) (D' : DV) (V' : JV) (la' de' : Bool), vz = .int .i64 ee ∧ JDN wz j d p D' V' la' de' (JN2 N w1.drew.heap.size wz.heap.size) ∧ Grown w1.drew wz N ∧ (D.acts ≤ D'.acts ∧ D'.acts ≤ D.acts + 300) ∧ ((ee = 0 ∧ de' = false ∧ V'.ps = V.ps ++ [bl] ∧ JX D' V' la' sure) ∨ (ee = 7 ∧ CR D' (V.ps ++ [bl]) sure) ∨ ((ee = 1 ∨ ee = 4 ∨ ee = 8) ∧ de' = false ∧ V' = V ∧ JX D' V la' sure))) ?_ ?_
 ·refine (japp_any j d p (.slice ba bl.length bc) bl D V la sure N w1.drew L2.out.tab L2.out.jd (fun k hk => (L2.out.nl k hk).2.1) HNx.out.2.2 HX.out (by have := HA.out; omega) R1.out.1 (fun hb k hk e => by have h1 := R1.out.2 hb k hk; have h2 := (L2.out.nl k e).1; omega) HBy.out HNx.out.2.1).mono ?_
  rintro e wz ⟨ee, D', V', la', de', rfl, h⟩
  exact ⟨_, rfl, ee, D', V', la', de', rfl, h⟩
 rintro vz w5 ⟨ee, D5, V5, la5, de5, rfl, h1, h2, h3, h4⟩
 have L5 := Keep.mk (L2.out.step h1 h2)
 have Q5 : Keep (Blk w5 q 39 #[.int .i64 1, .int .i64 nn, .slice ba bl.length bc, .slice ka kl.length kc]) := ⟨h2.blk Q1.out.drew HqN.out⟩
 have hgB : Grown w1.drew w5 fun k => B ≤ k := h2.mono fun k _ e => (HL.out.nl k e).1
 have GB5 : Keep (Grown w w5 fun k => B ≤ k) := ⟨GB1.out.drew.trans hgB⟩
 have I5 := Keep.mk ((I1.out.grown (Grown.refl w1 (fun k => B ≤ k)).drew fun _ h => h).grown hgB fun _ h => h)
 have R5 : Keep (RowB w5 (.slice ba bl.length bc) bl B) := ⟨(R1.out.grown (Grown.refl w1 (fun k => B ≤ k)).drew fun _ h => h).grown hgB fun _ h => h⟩
 have HqN5 : Keep (¬ JN2 N w1.drew.heap.size w5.heap.size q) := ⟨fun e => by rcases e.1 with e | e; exact HqN.out e; have := Q1.out.drew.lt; omega⟩
 have HAc := Keep.mk h3
 have H4 := Keep.mk h4
 clear h1 h2 h3 h4 hgB
 obtain ⟨N5, hN5⟩ : ∃ z, Keep (z = JN2 N w1.drew.heap.size w5.heap.size) := ⟨_, ⟨rfl⟩⟩
 rw [← hN5.out] at L5 HqN5
 refine hK _ _ (⟨L5.out.bx.c 2 rfl, Q5.out.c 2 rfl⟩) fun hH5 => ?_
 clear hK
 simp only [Act.put, pqA, pqB, pqC]
 refine tkS (i := 7) (oi := ⟨some 7, Op.assign (Operand.tmp 18), 24, _, _, none⟩) (v := .int .i64 ee) rfl (Or.inl ⟨by rfl, fun w hS => by obtain ⟨hS1, hS2⟩ := hS; go_simp⟩) hH5 ?_
 refine wpAnyH_done (by kernel_rfl) ?_ _
 refine hK6 _ _ ?_
 refine wp_seq_k fun K7 hK7 => ?_
 rcases H4.out with ⟨rfl, rfl, hps, hjx⟩ | ⟨rfl, hcr⟩ | ⟨hee, rfl, rfl, hjx⟩
 ·have JX5 := Keep.mk hjx
  have PS5 : Keep (V5.ps = all ++ [bl]) := ⟨by rw [hps, HP.out]⟩
  clear hps hjx H4
  refine rgn ?_
  refine VlS (.int .i64 0) ?_
  refine VlS (.bool true) ?_
  refine VlS (.bool true) ?_
  refine SkS ?_
  refine SkS ?_
  refine VlS (.bool true) ?_
  refine WL.nil (hK7 _ _ ?_)
  refine wp_cond_true rfl ?_
  have L9 := Keep.mk L5.out.drew
  have Q9 : Keep (Blk w5.drew q 39 #[.int .i64 1, .int .i64 nn, .slice ba bl.length bc, .slice ka kl.length kc]) := ⟨Q5.out.drew⟩
  have G9 : Keep (Grown w w5.drew fun k => B ≤ k) := ⟨GB5.out.drew⟩
  have R9 : Keep (RowB w5.drew (.slice ba bl.length bc) bl B) := ⟨R5.out.grown (Grown.refl w5 (fun k => B ≤ k)).drew fun _ h => h⟩
  have I9 := Keep.mk (I5.out.grown (Grown.refl w5 (fun k => B ≤ k)).drew fun _ h => h)
  clear L5 Q5 GB5 R5 I5 L1 Q1 GB1 R1 I1 IB1
  refine wp_region_held_drew (S := fun wx => Blk wx q 39 #[.int .i64 1, .int .i64 nn, .slice ba bl.length bc, .slice ka kl.length kc]) (by kernel_rfl) Q9.out (fun hHeld => ?_)
  generalize w5.drew = w9 at *
  refine tkS (i := 0) (oi := ⟨some 25, Op.move (Operand.tmp 0), 34, _, _, none⟩) (v := .pointer (some ⟨x, 0, none⟩)) rfl (Or.inl ⟨by rfl, fun w hS => by go_simp⟩) hHeld ?_
  refine tkS (i := 1) (oi := ⟨some 26, Op.move (Operand.tmp 0), 34, _, _, none⟩) (v := .pointer (some ⟨x, 0, none⟩)) rfl (Or.inl ⟨by rfl, fun w hS => by go_simp⟩) hHeld ?_
  refine tkS (i := 2) (oi := ⟨some 27, Op.nilCheck (Operand.tmp 26), 0, _, _, none⟩) (v := .pointer (some ⟨x, 0, none⟩)) rfl (Or.inl ⟨by rfl, fun w hS => by go_simp⟩) hHeld ?_
  refine tkS (i := 3) (oi := ⟨some 28, Op.fieldAddr 36 (Operand.tmp 27) 3, 0, _, _, none⟩) (v := .pointer (some ⟨x, 3, none⟩)) rfl (Or.inl ⟨by rfl, fun w hS => by go_simp⟩) hHeld ?_
  refine tkS (i := 5) (oi := ⟨some 30, Op.fieldAddr 39 (Operand.tmp 4) 2, 0, _, _, none⟩) (v := .pointer (some ⟨q, 2, none⟩)) rfl (Or.inl ⟨by rfl, fun w hS => by go_simp⟩) hHeld ?_
  refine tkS (i := 6) (oi := ⟨some 31, Op.load 37 (Operand.tmp 30), 37, _, _, none⟩) (v := .slice ba bl.length bc) rfl (Or.inl ⟨by rfl, fun w hS => by have h := hS.c 2 (by rfl : (#[.int .i64 1, .int .i64 nn, .slice ba bl.length bc, .slice ka kl.length kc] : Array Value)[2]? = some (.slice ba bl.length bc)); clear hS; go_simp⟩) hHeld ?_
  refine wpAnyH_ready (rs := [4, 7]) (by kernel_rfl) (by simp) ?_
  refine AllReadyH.cons (o := ⟨some 29, Op.load 23 (Operand.tmp 28), 23, _, _, none⟩) rfl (fun K hK => ?_) (AllReadyH.cons (o := ⟨some 32, Op.buildSlice 23 1 #[(0, Operand.tmp 31)], 23, _, _, none⟩) rfl (fun K hK => ?_) AllReadyH.nil)
  rw [if_pos (by rfl)]
  have cl : w9.cell? ⟨x, 3, none⟩ = some (.slice aa an ac) := L9.out.bx.c 3 rfl
  refine wp_val (.slice aa an ac) (by go_simp) ?_
  clear cl
  refine hK _ _ (Q9.out) fun hL9 => ?_
  clear hK
  simp only [Act.put, pqA, pqB, pqC]
  refine wpAnyH_ready (rs := [7]) (by kernel_rfl) (by simp) ?_
  refine AllReadyH.cons (o := ⟨some 32, Op.buildSlice 23 1 #[(0, Operand.tmp 31)], 23, _, _, none⟩) rfl (fun K hK => ?_) AllReadyH.nil
  rw [if_pos (by rfl)]
  refine wp_bs 23 1 _ rfl #[(0, .slice ba bl.length bc)] (by simp [Act.eval]) _ _ (bsR1 ba bl.length bc w9) ?_
  have hbx := below_new w9 (.cells #[.slice ba bl.length bc] 37)
  have HB10 := Keep.mk (Blk.new w9 37 #[.slice ba bl.length bc])
  have L10 := Keep.mk (L9.out.below hbx)
  have Q10 := Keep.mk (Q9.out.below hbx Q9.out.lt)
  have G10 : Keep (Grown w (w9.alloc (.cells #[.slice ba bl.length bc] 37)) fun k => B ≤ k) := ⟨G9.out.trans (Grown.below hbx)⟩
  have R10 := Keep.mk (R9.out.grown (Grown.below (S := fun k => B ≤ k) hbx) fun _ h => h)
  have I10 := Keep.mk (I9.out.grown (Grown.below (S := fun k => B ≤ k) hbx) fun _ h => h)
  clear hbx
  generalize w9.alloc (.cells #[.slice ba bl.length bc] 37) = w10 at *
  obtain ⟨g9, hg9⟩ : ∃ p, Keep (p = w9.heap.size) := ⟨_, ⟨rfl⟩⟩
  rw [← hg9.out] at HB10 ⊢
  refine hK _ _ (Q10.out) fun hB10 => ?_
  clear hK
  simp only [Act.put, pqA, pqB, pqC]
  refine wpAnyH_ready (rs := [8]) (by kernel_rfl) (by simp) ?_
  refine AllReadyH.cons (o := ⟨some 33, Op.call { callee := Callee.builtin Builtin.append, args := #[Operand.tmp 29, Operand.tmp 32], argTypes := #[23, 23] }, 23, _, _, none⟩) rfl (fun K hK => ?_) AllReadyH.nil
  rw [if_pos (by rfl)]
  refine wp_appA (.tmp 29) (.tmp 32) rfl (.slice aa an ac) all B g9 (.slice ba bl.length bc) bl rfl rfl L10.out.ra HB10.out R10.out (by have := Hal.out; omega) (fun k hk => (L10.out.ga k hk).1) fun v11 w11 h1 h2 h3 => ?_
  have hgx : ∀ k, (Value.slice aa an ac).ownBlock = some k → B ≤ k ∧ ¬ N5 k ∧ k ≠ h ∧ k ≠ d := fun k hk => ⟨(L10.out.ga k hk).1, (L10.out.ga k hk).2, fun e => by subst e; have := (L10.out.ra.typ hk).one L10.out.bh.typ; revert this; decide, fun e => by subst e; have := (L10.out.ra.typ hk).one L10.out.jd.1.typ; revert this; decide⟩
  have P11 := Keep.mk h1
  have M11 : Keep (∀ k, v11.ownBlock = some k → B ≤ k ∧ ¬ N5 k) := ⟨fun k hk => by
   rcases h3 with e | ⟨jj, e, hj⟩
   ·rw [hk] at e
    exact L10.out.ga k e.symm
   ·rw [hk] at e
    have hkj := Option.some.inj e
    have h8 := L10.out.siz
    exact ⟨by omega, fun e2 => by have := (L10.out.nl k e2).2.1; omega⟩⟩
  have G10x : Keep (Grown w10 w11 fun k => (Value.slice aa an ac).ownBlock = some k) := ⟨h2⟩
  have HGX := Keep.mk hgx
  have Q11 : Keep (Blk w11 q 39 #[.int .i64 1, .int .i64 nn, .slice ba bl.length bc, .slice ka kl.length kc]) := ⟨h2.blk Q10.out fun e => by have := (L10.out.ra.typ e).one Q10.out.typ; revert this; decide⟩
  have X11 : Keep (Blk w11 x 36 (lfA h d j (.slice aa an ac) sure)) := ⟨h2.blk L10.out.bx fun e => by have := (L10.out.ra.typ e).one L10.out.bx.typ; revert this; decide⟩
  clear h1 h2 h3 hgx
  obtain ⟨a11, n11, c11, e11, hn11⟩ : ∃ a n c, v11 = .slice a n c ∧ n = (all ++ [bl]).length := by obtain ⟨a, c, e⟩ := P11.out.form; exact ⟨a, _, c, e, rfl⟩
  have HN11 := Keep.mk hn11
  clear hn11
  subst e11
  refine hK _ _ (Q11.out) fun hA11 => ?_
  clear hK
  simp only [Act.put, pqA, pqB, pqC]
  refine tkS (i := 9) (oi := ⟨some 34, Op.nilCheck (Operand.tmp 25), 0, _, _, none⟩) (v := .pointer (some ⟨x, 0, none⟩)) rfl (Or.inl ⟨by rfl, fun w hS => by go_simp⟩) hA11 ?_
  refine tkS (i := 10) (oi := ⟨some 35, Op.fieldAddr 36 (Operand.tmp 34) 3, 0, _, _, none⟩) (v := .pointer (some ⟨x, 3, none⟩)) rfl (Or.inl ⟨by rfl, fun w hS => by go_simp⟩) hA11 ?_
  refine wpAnyH_ready (rs := [11]) (by kernel_rfl) (by simp) ?_
  refine AllReadyH.cons (o := ⟨none, Op.store 23 (Operand.tmp 35) (Operand.tmp 33), 0, _, _, none⟩) rfl (fun K hK => ?_) AllReadyH.nil
  rw [if_pos (by rfl)]
  have f_o := X11.out.frozen 3
  have cl : w11.cell? ⟨x, 3, none⟩ = some (.slice aa an ac) := X11.out.c 3 rfl
  refine wp_cellS (w11.setCell ⟨x, 3, none⟩ (.slice a11 n11 c11)) (by go_simp) ?_
  clear f_o cl
  have hgs : Grown w11 (w11.setCell ⟨x, 3, none⟩ (.slice a11 n11 c11)) fun k => k = x := Grown.setCell w11 x 3 _ fun _ => rfl
  have hg12 : Grown w10 (w11.setCell ⟨x, 3, none⟩ (.slice a11 n11 c11)) fun k => (Value.slice aa an ac).ownBlock = some k ∨ k = x := (G10x.out.mono fun k _ e => .inl e).trans (hgs.mono fun k _ e => .inr e)
  have hxh : x ≠ h := fun e => by have h1 := L10.out.bx.typ; rw [e] at h1; have := h1.one L10.out.bh.typ; revert this; decide
  have hxd : x ≠ d := fun e => by have h1 := L10.out.bx.typ; rw [e] at h1; have := h1.one L10.out.jd.1.typ; revert this; decide
  have hSx : ∀ k, (Value.slice aa an ac).ownBlock = some k ∨ k = x → B ≤ k ∧ ¬ N5 k ∧ k ≠ h ∧ k ≠ d := fun k hk => by
   rcases hk with hk | rfl
   ·exact HGX.out k hk
   ·exact ⟨L10.out.xl, fun e => (L10.out.nl _ e).2.2.1 rfl, hxh, hxd⟩
  have L12 : Keep (LF (w11.setCell ⟨x, 3, none⟩ (.slice a11 n11 c11)) B x h d p j (.slice a11 n11 c11) D5 V5 la5 false sure (all ++ [bl]) N5) := ⟨L10.out.put hg12 hSx (X11.out.set 3 (.slice a11 n11 c11)) (P11.out.grown hgs (fun k hk e => by subst e; have := (P11.out.typ hk).one X11.out.typ; revert this; decide) fun k e => by rw [e]; exact L10.out.xl) M11.out⟩
  have Q12 : Keep (Blk (w11.setCell ⟨x, 3, none⟩ (.slice a11 n11 c11)) q 39 #[.int .i64 1, .int .i64 nn, .slice ba bl.length bc, .slice ka kl.length kc]) := ⟨hgs.blk Q11.out fun e => by rw [e] at Q11; have := Q11.out.typ.one X11.out.typ; revert this; decide⟩
  have G12 : Keep (Grown w (w11.setCell ⟨x, 3, none⟩ (.slice a11 n11 c11)) fun k => B ≤ k) := ⟨G10.out.trans (hg12.mono fun k _ e => (hSx k e).1)⟩
  have I12 := Keep.mk (I10.out.grown hg12 fun k e => (hSx k e).1)
  clear hgs hg12 hxh hxd hSx X11 P11 Q11 M11 G10x HGX L10 Q10 G10 R10 I10 L9 Q9 G9 R9 I9 HB10 hg9
  generalize (w11.setCell ⟨x, 3, none⟩ (.slice a11 n11 c11)) = w12 at *
  refine hK _ _ (Q12.out) fun hS12 => ?_
  clear hK
  simp only [Act.put, pqA, pqB, pqC]
  refine wpAnyH_done (by kernel_rfl) ?_ _
  rotate_left
  rw [if_pos (by rfl)]
  refine wp_bs 23 1 _ rfl #[(0, .slice ba bl.length bc)] (by simp [Act.eval]) _ _ (bsR1 ba bl.length bc w9) ?_
  have hbx := below_new w9 (.cells #[.slice ba bl.length bc] 37)
  have HB10 := Keep.mk (Blk.new w9 37 #[.slice ba bl.length bc])
  have L10 := Keep.mk (L9.out.below hbx)
  have Q10 := Keep.mk (Q9.out.below hbx Q9.out.lt)
  have G10 : Keep (Grown w (w9.alloc (.cells #[.slice ba bl.length bc] 37)) fun k => B ≤ k) := ⟨G9.out.trans (Grown.below hbx)⟩
  have R10 := Keep.mk (R9.out.grown (Grown.below (S := fun k => B ≤ k) hbx) fun _ h => h)
  have I10 := Keep.mk (I9.out.grown (Grown.below (S := fun k => B ≤ k) hbx) fun _ h => h)
  clear hbx
  generalize w9.alloc (.cells #[.slice ba bl.length bc] 37) = w10 at *
  obtain ⟨g9, hg9⟩ : ∃ p, Keep (p = w9.heap.size) := ⟨_, ⟨rfl⟩⟩
  rw [← hg9.out] at HB10 ⊢
  refine hK _ _ (Q10.out) fun hB10 => ?_
  clear hK
  simp only [Act.put, pqA, pqB, pqC]
  refine wpAnyH_ready (rs := [4]) (by kernel_rfl) (by simp) ?_
  refine AllReadyH.cons (o := ⟨some 29, Op.load 23 (Operand.tmp 28), 23, _, _, none⟩) rfl (fun K hK => ?_) AllReadyH.nil
  rw [if_pos (by rfl)]
  have cl : w10.cell? ⟨x, 3, none⟩ = some (.slice aa an ac) := L10.out.bx.c 3 rfl
  refine wp_val (.slice aa an ac) (by go_simp) ?_
  clear cl
  refine hK _ _ (Q10.out) fun hL10 => ?_
  clear hK
  simp only [Act.put, pqA, pqB, pqC]
  refine wpAnyH_ready (rs := [8]) (by kernel_rfl) (by simp) ?_
  refine AllReadyH.cons (o := ⟨some 33, Op.call { callee := Callee.builtin Builtin.append, args := #[Operand.tmp 29, Operand.tmp 32], argTypes := #[23, 23] }, 23, _, _, none⟩) rfl (fun K hK => ?_) AllReadyH.nil
  rw [if_pos (by rfl)]
  refine wp_appA (.tmp 29) (.tmp 32) rfl (.slice aa an ac) all B g9 (.slice ba bl.length bc) bl rfl rfl L10.out.ra HB10.out R10.out (by have := Hal.out; omega) (fun k hk => (L10.out.ga k hk).1) fun v11 w11 h1 h2 h3 => ?_
  have hgx : ∀ k, (Value.slice aa an ac).ownBlock = some k → B ≤ k ∧ ¬ N5 k ∧ k ≠ h ∧ k ≠ d := fun k hk => ⟨(L10.out.ga k hk).1, (L10.out.ga k hk).2, fun e => by subst e; have := (L10.out.ra.typ hk).one L10.out.bh.typ; revert this; decide, fun e => by subst e; have := (L10.out.ra.typ hk).one L10.out.jd.1.typ; revert this; decide⟩
  have P11 := Keep.mk h1
  have M11 : Keep (∀ k, v11.ownBlock = some k → B ≤ k ∧ ¬ N5 k) := ⟨fun k hk => by
   rcases h3 with e | ⟨jj, e, hj⟩
   ·rw [hk] at e
    exact L10.out.ga k e.symm
   ·rw [hk] at e
    have hkj := Option.some.inj e
    have h8 := L10.out.siz
    exact ⟨by omega, fun e2 => by have := (L10.out.nl k e2).2.1; omega⟩⟩
  have G10x : Keep (Grown w10 w11 fun k => (Value.slice aa an ac).ownBlock = some k) := ⟨h2⟩
  have HGX := Keep.mk hgx
  have Q11 : Keep (Blk w11 q 39 #[.int .i64 1, .int .i64 nn, .slice ba bl.length bc, .slice ka kl.length kc]) := ⟨h2.blk Q10.out fun e => by have := (L10.out.ra.typ e).one Q10.out.typ; revert this; decide⟩
  have X11 : Keep (Blk w11 x 36 (lfA h d j (.slice aa an ac) sure)) := ⟨h2.blk L10.out.bx fun e => by have := (L10.out.ra.typ e).one L10.out.bx.typ; revert this; decide⟩
  clear h1 h2 h3 hgx
  obtain ⟨a11, n11, c11, e11, hn11⟩ : ∃ a n c, v11 = .slice a n c ∧ n = (all ++ [bl]).length := by obtain ⟨a, c, e⟩ := P11.out.form; exact ⟨a, _, c, e, rfl⟩
  have HN11 := Keep.mk hn11
  clear hn11
  subst e11
  refine hK _ _ (Q11.out) fun hA11 => ?_
  clear hK
  simp only [Act.put, pqA, pqB, pqC]
  refine tkS (i := 9) (oi := ⟨some 34, Op.nilCheck (Operand.tmp 25), 0, _, _, none⟩) (v := .pointer (some ⟨x, 0, none⟩)) rfl (Or.inl ⟨by rfl, fun w hS => by go_simp⟩) hA11 ?_
  refine tkS (i := 10) (oi := ⟨some 35, Op.fieldAddr 36 (Operand.tmp 34) 3, 0, _, _, none⟩) (v := .pointer (some ⟨x, 3, none⟩)) rfl (Or.inl ⟨by rfl, fun w hS => by go_simp⟩) hA11 ?_
  refine wpAnyH_ready (rs := [11]) (by kernel_rfl) (by simp) ?_
  refine AllReadyH.cons (o := ⟨none, Op.store 23 (Operand.tmp 35) (Operand.tmp 33), 0, _, _, none⟩) rfl (fun K hK => ?_) AllReadyH.nil
  rw [if_pos (by rfl)]
  have f_o := X11.out.frozen 3
  have cl : w11.cell? ⟨x, 3, none⟩ = some (.slice aa an ac) := X11.out.c 3 rfl
  refine wp_cellS (w11.setCell ⟨x, 3, none⟩ (.slice a11 n11 c11)) (by go_simp) ?_
  clear f_o cl
  have hgs : Grown w11 (w11.setCell ⟨x, 3, none⟩ (.slice a11 n11 c11)) fun k => k = x := Grown.setCell w11 x 3 _ fun _ => rfl
  have hg12 : Grown w10 (w11.setCell ⟨x, 3, none⟩ (.slice a11 n11 c11)) fun k => (Value.slice aa an ac).ownBlock = some k ∨ k = x := (G10x.out.mono fun k _ e => .inl e).trans (hgs.mono fun k _ e => .inr e)
  have hxh : x ≠ h := fun e => by have h1 := L10.out.bx.typ; rw [e] at h1; have := h1.one L10.out.bh.typ; revert this; decide
  have hxd : x ≠ d := fun e => by have h1 := L10.out.bx.typ; rw [e] at h1; have := h1.one L10.out.jd.1.typ; revert this; decide
  have hSx : ∀ k, (Value.slice aa an ac).ownBlock = some k ∨ k = x → B ≤ k ∧ ¬ N5 k ∧ k ≠ h ∧ k ≠ d := fun k hk => by
   rcases hk with hk | rfl
   ·exact HGX.out k hk
   ·exact ⟨L10.out.xl, fun e => (L10.out.nl _ e).2.2.1 rfl, hxh, hxd⟩
  have L12 : Keep (LF (w11.setCell ⟨x, 3, none⟩ (.slice a11 n11 c11)) B x h d p j (.slice a11 n11 c11) D5 V5 la5 false sure (all ++ [bl]) N5) := ⟨L10.out.put hg12 hSx (X11.out.set 3 (.slice a11 n11 c11)) (P11.out.grown hgs (fun k hk e => by subst e; have := (P11.out.typ hk).one X11.out.typ; revert this; decide) fun k e => by rw [e]; exact L10.out.xl) M11.out⟩
  have Q12 : Keep (Blk (w11.setCell ⟨x, 3, none⟩ (.slice a11 n11 c11)) q 39 #[.int .i64 1, .int .i64 nn, .slice ba bl.length bc, .slice ka kl.length kc]) := ⟨hgs.blk Q11.out fun e => by rw [e] at Q11; have := Q11.out.typ.one X11.out.typ; revert this; decide⟩
  have G12 : Keep (Grown w (w11.setCell ⟨x, 3, none⟩ (.slice a11 n11 c11)) fun k => B ≤ k) := ⟨G10.out.trans (hg12.mono fun k _ e => (hSx k e).1)⟩
  have I12 := Keep.mk (I10.out.grown hg12 fun k e => (hSx k e).1)
  clear hgs hg12 hxh hxd hSx X11 P11 Q11 M11 G10x HGX L10 Q10 G10 R10 I10 L9 Q9 G9 R9 I9 HB10 hg9
  generalize (w11.setCell ⟨x, 3, none⟩ (.slice a11 n11 c11)) = w12 at *
  refine hK _ _ (Q12.out) fun hS12 => ?_
  clear hK
  simp only [Act.put, pqA, pqB, pqC]
  refine wpAnyH_done (by kernel_rfl) ?_ _
  rotate_left
  all_goals
   refine hK3 _ _ ?_
   refine wp_seq_k fun K9 hK9 => ?_
   refine wp_seq_k fun K10 hK10 => rgn ?_
   refine VlS (.int .i64 0) ?_
   refine VlS (.bool false) ?_
   refine WL.nil (hK10 _ _ ?_)
   refine wp_cond_false rfl ?_
   refine wp_skip ?_
   refine hK9 _ _ ?_
   refine wp_seq_k fun K11 hK11 => ?_
   obtain ⟨pa_, pc_, cj⟩ := L12.out.lenj JX5.out PS5.out
   rw [← HN11.out] at cj
   have HS0 : Keep ((w12.drew).cell? ⟨x, 2, none⟩ = some (ptr j) ∧ (w12.drew).cell? ⟨x, 3, none⟩ = some (.slice a11 n11 c11) ∧ (w12.drew).cell? ⟨j, 1, none⟩ = some (.slice pa_ n11 pc_)) := ⟨⟨L12.out.bx.drew.c 2 rfl, L12.out.bx.drew.c 3 rfl, cj⟩⟩
   clear cj
   refine wp_region_held_drew (S := fun wx => wx.cell? ⟨x, 2, none⟩ = some (ptr j) ∧ wx.cell? ⟨x, 3, none⟩ = some (.slice a11 n11 c11) ∧ wx.cell? ⟨j, 1, none⟩ = some (.slice pa_ n11 pc_)) (by kernel_rfl) (HS0.out) (fun hHeld => ?_)
   refine tkS (i := 0) (oi := ⟨some 121, Op.move (Operand.tmp 0), 34, _, _, none⟩) (v := .pointer (some ⟨x, 0, none⟩)) rfl (Or.inl ⟨by rfl, fun w hS => by obtain ⟨hS1, hS2, hS3⟩ := hS; go_simp⟩) hHeld ?_
   refine tkS (i := 1) (oi := ⟨some 122, Op.nilCheck (Operand.tmp 121), 0, _, _, none⟩) (v := .pointer (some ⟨x, 0, none⟩)) rfl (Or.inl ⟨by rfl, fun w hS => by obtain ⟨hS1, hS2, hS3⟩ := hS; go_simp⟩) hHeld ?_
   refine tkS (i := 2) (oi := ⟨some 123, Op.fieldAddr 36 (Operand.tmp 122) 2, 0, _, _, none⟩) (v := .pointer (some ⟨x, 2, none⟩)) rfl (Or.inl ⟨by rfl, fun w hS => by obtain ⟨hS1, hS2, hS3⟩ := hS; go_simp⟩) hHeld ?_
   refine tkS (i := 3) (oi := ⟨some 124, Op.load 22 (Operand.tmp 123), 22, _, _, none⟩) (v := .pointer (some ⟨j, 0, none⟩)) rfl (Or.inl ⟨by rfl, fun w hS => by obtain ⟨hS1, hS2, hS3⟩ := hS; go_simp⟩) hHeld ?_
   refine tkS (i := 5) (oi := ⟨some 126, Op.move (Operand.tmp 0), 34, _, _, none⟩) (v := .pointer (some ⟨x, 0, none⟩)) rfl (Or.inl ⟨by rfl, fun w hS => by obtain ⟨hS1, hS2, hS3⟩ := hS; go_simp⟩) hHeld ?_
   refine tkS (i := 6) (oi := ⟨some 127, Op.nilCheck (Operand.tmp 126), 0, _, _, none⟩) (v := .pointer (some ⟨x, 0, none⟩)) rfl (Or.inl ⟨by rfl, fun w hS => by obtain ⟨hS1, hS2, hS3⟩ := hS; go_simp⟩) hHeld ?_
   refine tkS (i := 7) (oi := ⟨some 128, Op.fieldAddr 36 (Operand.tmp 127) 3, 0, _, _, none⟩) (v := .pointer (some ⟨x, 3, none⟩)) rfl (Or.inl ⟨by rfl, fun w hS => by obtain ⟨hS1, hS2, hS3⟩ := hS; go_simp⟩) hHeld ?_
   refine tkS (i := 8) (oi := ⟨some 129, Op.load 23 (Operand.tmp 128), 23, _, _, none⟩) (v := .slice a11 n11 c11) rfl (Or.inl ⟨by rfl, fun w hS => by obtain ⟨hS1, hS2, hS3⟩ := hS; go_simp⟩) hHeld ?_
   refine tkS (i := 9) (oi := ⟨some 130, Op.call { callee := Callee.builtin Builtin.len, args := #[Operand.tmp 129], argTypes := #[23] }, 3, _, _, none⟩) (v := .int .i64 (n11 : Int)) rfl (Or.inl ⟨by rfl, fun w hS => by obtain ⟨hS1, hS2, hS3⟩ := hS; go_simp⟩) hHeld ?_
   refine wpAnyH_ready (rs := [4]) (by kernel_rfl) (by simp) ?_
   refine AllReadyH.cons (o := ⟨some 125, Op.call { callee := Callee.value (Operand.func 26), args := #[Operand.tmp 124], argTypes := #[22] }, 3, _, _, none⟩) rfl (fun K hK => ?_) AllReadyH.nil
   rw [if_pos (by rfl)]
   refine wp_callF 26 _ _ rfl Tryd.in26 #[ptr j] (by simp [Act.eval]) (fun vz wz => vz = .int .i64 (n11 : Int) ∧ wz = w12.drew) ?_ ?_
   ·refine (len_any j pa_ n11 pc_ w12.drew HS0.out.2.2).mono ?_
    rintro e wz ⟨rfl, rfl⟩
    exact ⟨_, rfl, rfl, rfl⟩
   rintro vz _ ⟨rfl, rfl⟩
   skip
   refine hK _ _ (HS0.out) fun hH9 => ?_
   clear hK
   simp only [Act.put, pqA, pqB, pqC]
   refine tkS (i := 10) (oi := ⟨some 131, Op.binOp BinOp.eql 3 (Operand.tmp 125) (Operand.tmp 130) 3, 4, _, _, none⟩) (v := .bool true) rfl (Or.inl ⟨by rfl, fun w hS => by obtain ⟨hS1, hS2, hS3⟩ := hS; go_simp⟩) hH9 ?_
   refine tkS (i := 11) (oi := ⟨some 6, Op.assign (Operand.tmp 131), 4, _, _, none⟩) (v := .bool true) rfl (Or.inl ⟨by rfl, fun w hS => by obtain ⟨hS1, hS2, hS3⟩ := hS; go_simp⟩) hH9 ?_
   refine wpAnyH_done (by kernel_rfl) ?_ _
   refine hK11 _ _ ?_
   refine wp_ret ?_
   go_ret
   exact ⟨rfl, j, .slice a11 n11 c11, D5, V5, la5, sure, (all ++ [bl]), N5, L12.out.drew, JX5.out, PS5.out, by have h8 := HAc.out; omega, G12.out.drew⟩
 ·have CR5 : Keep (CR D5 (all ++ [bl]) sure) := ⟨by rw [HP.out] at hcr; exact hcr⟩
  clear hcr H4
  refine rgn ?_
  refine VlS (.int .i64 7) ?_
  refine VlS (.bool false) ?_
  refine VlS (.bool false) ?_
  refine VlS (.int .i64 7) ?_
  refine VlS (.bool true) ?_
  refine VlS (.bool true) ?_
  refine WL.nil (hK7 _ _ ?_)
  refine wp_cond_true rfl ?_
  have L9 := Keep.mk L5.out.drew
  have Q9 : Keep (Blk w5.drew q 39 #[.int .i64 1, .int .i64 nn, .slice ba bl.length bc, .slice ka kl.length kc]) := ⟨Q5.out.drew⟩
  have G9 : Keep (Grown w w5.drew fun k => B ≤ k) := ⟨GB5.out.drew⟩
  have R9 : Keep (RowB w5.drew (.slice ba bl.length bc) bl B) := ⟨R5.out.grown (Grown.refl w5 (fun k => B ≤ k)).drew fun _ h => h⟩
  have I9 := Keep.mk (I5.out.grown (Grown.refl w5 (fun k => B ≤ k)).drew fun _ h => h)
  clear L5 Q5 GB5 R5 I5 L1 Q1 GB1 R1 I1 IB1
  refine wp_region_held_drew (S := fun wx => Blk wx q 39 #[.int .i64 1, .int .i64 nn, .slice ba bl.length bc, .slice ka kl.length kc]) (by kernel_rfl) Q9.out (fun hHeld => ?_)
  generalize w5.drew = w9 at *
  refine tkS (i := 0) (oi := ⟨some 25, Op.move (Operand.tmp 0), 34, _, _, none⟩) (v := .pointer (some ⟨x, 0, none⟩)) rfl (Or.inl ⟨by rfl, fun w hS => by go_simp⟩) hHeld ?_
  refine tkS (i := 1) (oi := ⟨some 26, Op.move (Operand.tmp 0), 34, _, _, none⟩) (v := .pointer (some ⟨x, 0, none⟩)) rfl (Or.inl ⟨by rfl, fun w hS => by go_simp⟩) hHeld ?_
  refine tkS (i := 2) (oi := ⟨some 27, Op.nilCheck (Operand.tmp 26), 0, _, _, none⟩) (v := .pointer (some ⟨x, 0, none⟩)) rfl (Or.inl ⟨by rfl, fun w hS => by go_simp⟩) hHeld ?_
  refine tkS (i := 3) (oi := ⟨some 28, Op.fieldAddr 36 (Operand.tmp 27) 3, 0, _, _, none⟩) (v := .pointer (some ⟨x, 3, none⟩)) rfl (Or.inl ⟨by rfl, fun w hS => by go_simp⟩) hHeld ?_
  refine tkS (i := 5) (oi := ⟨some 30, Op.fieldAddr 39 (Operand.tmp 4) 2, 0, _, _, none⟩) (v := .pointer (some ⟨q, 2, none⟩)) rfl (Or.inl ⟨by rfl, fun w hS => by go_simp⟩) hHeld ?_
  refine tkS (i := 6) (oi := ⟨some 31, Op.load 37 (Operand.tmp 30), 37, _, _, none⟩) (v := .slice ba bl.length bc) rfl (Or.inl ⟨by rfl, fun w hS => by have h := hS.c 2 (by rfl : (#[.int .i64 1, .int .i64 nn, .slice ba bl.length bc, .slice ka kl.length kc] : Array Value)[2]? = some (.slice ba bl.length bc)); clear hS; go_simp⟩) hHeld ?_
  refine wpAnyH_ready (rs := [4, 7]) (by kernel_rfl) (by simp) ?_
  refine AllReadyH.cons (o := ⟨some 29, Op.load 23 (Operand.tmp 28), 23, _, _, none⟩) rfl (fun K hK => ?_) (AllReadyH.cons (o := ⟨some 32, Op.buildSlice 23 1 #[(0, Operand.tmp 31)], 23, _, _, none⟩) rfl (fun K hK => ?_) AllReadyH.nil)
  rw [if_pos (by rfl)]
  have cl : w9.cell? ⟨x, 3, none⟩ = some (.slice aa an ac) := L9.out.bx.c 3 rfl
  refine wp_val (.slice aa an ac) (by go_simp) ?_
  clear cl
  refine hK _ _ (Q9.out) fun hL9 => ?_
  clear hK
  simp only [Act.put, pqA, pqB, pqC]
  refine wpAnyH_ready (rs := [7]) (by kernel_rfl) (by simp) ?_
  refine AllReadyH.cons (o := ⟨some 32, Op.buildSlice 23 1 #[(0, Operand.tmp 31)], 23, _, _, none⟩) rfl (fun K hK => ?_) AllReadyH.nil
  rw [if_pos (by rfl)]
  refine wp_bs 23 1 _ rfl #[(0, .slice ba bl.length bc)] (by simp [Act.eval]) _ _ (bsR1 ba bl.length bc w9) ?_
  have hbx := below_new w9 (.cells #[.slice ba bl.length bc] 37)
  have HB10 := Keep.mk (Blk.new w9 37 #[.slice ba bl.length bc])
  have L10 := Keep.mk (L9.out.below hbx)
  have Q10 := Keep.mk (Q9.out.below hbx Q9.out.lt)
  have G10 : Keep (Grown w (w9.alloc (.cells #[.slice ba bl.length bc] 37)) fun k => B ≤ k) := ⟨G9.out.trans (Grown.below hbx)⟩
  have R10 := Keep.mk (R9.out.grown (Grown.below (S := fun k => B ≤ k) hbx) fun _ h => h)
  have I10 := Keep.mk (I9.out.grown (Grown.below (S := fun k => B ≤ k) hbx) fun _ h => h)
  clear hbx
  generalize w9.alloc (.cells #[.slice ba bl.length bc] 37) = w10 at *
  obtain ⟨g9, hg9⟩ : ∃ p, Keep (p = w9.heap.size) := ⟨_, ⟨rfl⟩⟩
  rw [← hg9.out] at HB10 ⊢
  refine hK _ _ (Q10.out) fun hB10 => ?_
  clear hK
  simp only [Act.put, pqA, pqB, pqC]
  refine wpAnyH_ready (rs := [8]) (by kernel_rfl) (by simp) ?_
  refine AllReadyH.cons (o := ⟨some 33, Op.call { callee := Callee.builtin Builtin.append, args := #[Operand.tmp 29, Operand.tmp 32], argTypes := #[23, 23] }, 23, _, _, none⟩) rfl (fun K hK => ?_) AllReadyH.nil
  rw [if_pos (by rfl)]
  refine wp_appA (.tmp 29) (.tmp 32) rfl (.slice aa an ac) all B g9 (.slice ba bl.length bc) bl rfl rfl L10.out.ra HB10.out R10.out (by have := Hal.out; omega) (fun k hk => (L10.out.ga k hk).1) fun v11 w11 h1 h2 h3 => ?_
  have hgx : ∀ k, (Value.slice aa an ac).ownBlock = some k → B ≤ k ∧ ¬ N5 k ∧ k ≠ h ∧ k ≠ d := fun k hk => ⟨(L10.out.ga k hk).1, (L10.out.ga k hk).2, fun e => by subst e; have := (L10.out.ra.typ hk).one L10.out.bh.typ; revert this; decide, fun e => by subst e; have := (L10.out.ra.typ hk).one L10.out.jd.1.typ; revert this; decide⟩
  have P11 := Keep.mk h1
  have M11 : Keep (∀ k, v11.ownBlock = some k → B ≤ k ∧ ¬ N5 k) := ⟨fun k hk => by
   rcases h3 with e | ⟨jj, e, hj⟩
   ·rw [hk] at e
    exact L10.out.ga k e.symm
   ·rw [hk] at e
    have hkj := Option.some.inj e
    have h8 := L10.out.siz
    exact ⟨by omega, fun e2 => by have := (L10.out.nl k e2).2.1; omega⟩⟩
  have G10x : Keep (Grown w10 w11 fun k => (Value.slice aa an ac).ownBlock = some k) := ⟨h2⟩
  have HGX := Keep.mk hgx
  have Q11 : Keep (Blk w11 q 39 #[.int .i64 1, .int .i64 nn, .slice ba bl.length bc, .slice ka kl.length kc]) := ⟨h2.blk Q10.out fun e => by have := (L10.out.ra.typ e).one Q10.out.typ; revert this; decide⟩
  have X11 : Keep (Blk w11 x 36 (lfA h d j (.slice aa an ac) sure)) := ⟨h2.blk L10.out.bx fun e => by have := (L10.out.ra.typ e).one L10.out.bx.typ; revert this; decide⟩
  clear h1 h2 h3 hgx
  obtain ⟨a11, n11, c11, e11, hn11⟩ : ∃ a n c, v11 = .slice a n c ∧ n = (all ++ [bl]).length := by obtain ⟨a, c, e⟩ := P11.out.form; exact ⟨a, _, c, e, rfl⟩
  have HN11 := Keep.mk hn11
  clear hn11
  subst e11
  refine hK _ _ (Q11.out) fun hA11 => ?_
  clear hK
  simp only [Act.put, pqA, pqB, pqC]
  refine tkS (i := 9) (oi := ⟨some 34, Op.nilCheck (Operand.tmp 25), 0, _, _, none⟩) (v := .pointer (some ⟨x, 0, none⟩)) rfl (Or.inl ⟨by rfl, fun w hS => by go_simp⟩) hA11 ?_
  refine tkS (i := 10) (oi := ⟨some 35, Op.fieldAddr 36 (Operand.tmp 34) 3, 0, _, _, none⟩) (v := .pointer (some ⟨x, 3, none⟩)) rfl (Or.inl ⟨by rfl, fun w hS => by go_simp⟩) hA11 ?_
  refine wpAnyH_ready (rs := [11]) (by kernel_rfl) (by simp) ?_
  refine AllReadyH.cons (o := ⟨none, Op.store 23 (Operand.tmp 35) (Operand.tmp 33), 0, _, _, none⟩) rfl (fun K hK => ?_) AllReadyH.nil
  rw [if_pos (by rfl)]
  have f_o := X11.out.frozen 3
  have cl : w11.cell? ⟨x, 3, none⟩ = some (.slice aa an ac) := X11.out.c 3 rfl
  refine wp_cellS (w11.setCell ⟨x, 3, none⟩ (.slice a11 n11 c11)) (by go_simp) ?_
  clear f_o cl
  have hgs : Grown w11 (w11.setCell ⟨x, 3, none⟩ (.slice a11 n11 c11)) fun k => k = x := Grown.setCell w11 x 3 _ fun _ => rfl
  have hg12 : Grown w10 (w11.setCell ⟨x, 3, none⟩ (.slice a11 n11 c11)) fun k => (Value.slice aa an ac).ownBlock = some k ∨ k = x := (G10x.out.mono fun k _ e => .inl e).trans (hgs.mono fun k _ e => .inr e)
  have hxh : x ≠ h := fun e => by have h1 := L10.out.bx.typ; rw [e] at h1; have := h1.one L10.out.bh.typ; revert this; decide
  have hxd : x ≠ d := fun e => by have h1 := L10.out.bx.typ; rw [e] at h1; have := h1.one L10.out.jd.1.typ; revert this; decide
  have hSx : ∀ k, (Value.slice aa an ac).ownBlock = some k ∨ k = x → B ≤ k ∧ ¬ N5 k ∧ k ≠ h ∧ k ≠ d := fun k hk => by
   rcases hk with hk | rfl
   ·exact HGX.out k hk
   ·exact ⟨L10.out.xl, fun e => (L10.out.nl _ e).2.2.1 rfl, hxh, hxd⟩
  have L12 : Keep (LF (w11.setCell ⟨x, 3, none⟩ (.slice a11 n11 c11)) B x h d p j (.slice a11 n11 c11) D5 V5 la5 de5 sure (all ++ [bl]) N5) := ⟨L10.out.put hg12 hSx (X11.out.set 3 (.slice a11 n11 c11)) (P11.out.grown hgs (fun k hk e => by subst e; have := (P11.out.typ hk).one X11.out.typ; revert this; decide) fun k e => by rw [e]; exact L10.out.xl) M11.out⟩
  have Q12 : Keep (Blk (w11.setCell ⟨x, 3, none⟩ (.slice a11 n11 c11)) q 39 #[.int .i64 1, .int .i64 nn, .slice ba bl.length bc, .slice ka kl.length kc]) := ⟨hgs.blk Q11.out fun e => by rw [e] at Q11; have := Q11.out.typ.one X11.out.typ; revert this; decide⟩
  have G12 : Keep (Grown w (w11.setCell ⟨x, 3, none⟩ (.slice a11 n11 c11)) fun k => B ≤ k) := ⟨G10.out.trans (hg12.mono fun k _ e => (hSx k e).1)⟩
  have I12 := Keep.mk (I10.out.grown hg12 fun k e => (hSx k e).1)
  clear hgs hg12 hxh hxd hSx X11 P11 Q11 M11 G10x HGX L10 Q10 G10 R10 I10 L9 Q9 G9 R9 I9 HB10 hg9
  generalize (w11.setCell ⟨x, 3, none⟩ (.slice a11 n11 c11)) = w12 at *
  refine hK _ _ (Q12.out) fun hS12 => ?_
  clear hK
  simp only [Act.put, pqA, pqB, pqC]
  refine wpAnyH_done (by kernel_rfl) ?_ _
  rotate_left
  rw [if_pos (by rfl)]
  refine wp_bs 23 1 _ rfl #[(0, .slice ba bl.length bc)] (by simp [Act.eval]) _ _ (bsR1 ba bl.length bc w9) ?_
  have hbx := below_new w9 (.cells #[.slice ba bl.length bc] 37)
  have HB10 := Keep.mk (Blk.new w9 37 #[.slice ba bl.length bc])
  have L10 := Keep.mk (L9.out.below hbx)
  have Q10 := Keep.mk (Q9.out.below hbx Q9.out.lt)
  have G10 : Keep (Grown w (w9.alloc (.cells #[.slice ba bl.length bc] 37)) fun k => B ≤ k) := ⟨G9.out.trans (Grown.below hbx)⟩
  have R10 := Keep.mk (R9.out.grown (Grown.below (S := fun k => B ≤ k) hbx) fun _ h => h)
  have I10 := Keep.mk (I9.out.grown (Grown.below (S := fun k => B ≤ k) hbx) fun _ h => h)
  clear hbx
  generalize w9.alloc (.cells #[.slice ba bl.length bc] 37) = w10 at *
  obtain ⟨g9, hg9⟩ : ∃ p, Keep (p = w9.heap.size) := ⟨_, ⟨rfl⟩⟩
  rw [← hg9.out] at HB10 ⊢
  refine hK _ _ (Q10.out) fun hB10 => ?_
  clear hK
  simp only [Act.put, pqA, pqB, pqC]
  refine wpAnyH_ready (rs := [4]) (by kernel_rfl) (by simp) ?_
  refine AllReadyH.cons (o := ⟨some 29, Op.load 23 (Operand.tmp 28), 23, _, _, none⟩) rfl (fun K hK => ?_) AllReadyH.nil
  rw [if_pos (by rfl)]
  have cl : w10.cell? ⟨x, 3, none⟩ = some (.slice aa an ac) := L10.out.bx.c 3 rfl
  refine wp_val (.slice aa an ac) (by go_simp) ?_
  clear cl
  refine hK _ _ (Q10.out) fun hL10 => ?_
  clear hK
  simp only [Act.put, pqA, pqB, pqC]
  refine wpAnyH_ready (rs := [8]) (by kernel_rfl) (by simp) ?_
  refine AllReadyH.cons (o := ⟨some 33, Op.call { callee := Callee.builtin Builtin.append, args := #[Operand.tmp 29, Operand.tmp 32], argTypes := #[23, 23] }, 23, _, _, none⟩) rfl (fun K hK => ?_) AllReadyH.nil
  rw [if_pos (by rfl)]
  refine wp_appA (.tmp 29) (.tmp 32) rfl (.slice aa an ac) all B g9 (.slice ba bl.length bc) bl rfl rfl L10.out.ra HB10.out R10.out (by have := Hal.out; omega) (fun k hk => (L10.out.ga k hk).1) fun v11 w11 h1 h2 h3 => ?_
  have hgx : ∀ k, (Value.slice aa an ac).ownBlock = some k → B ≤ k ∧ ¬ N5 k ∧ k ≠ h ∧ k ≠ d := fun k hk => ⟨(L10.out.ga k hk).1, (L10.out.ga k hk).2, fun e => by subst e; have := (L10.out.ra.typ hk).one L10.out.bh.typ; revert this; decide, fun e => by subst e; have := (L10.out.ra.typ hk).one L10.out.jd.1.typ; revert this; decide⟩
  have P11 := Keep.mk h1
  have M11 : Keep (∀ k, v11.ownBlock = some k → B ≤ k ∧ ¬ N5 k) := ⟨fun k hk => by
   rcases h3 with e | ⟨jj, e, hj⟩
   ·rw [hk] at e
    exact L10.out.ga k e.symm
   ·rw [hk] at e
    have hkj := Option.some.inj e
    have h8 := L10.out.siz
    exact ⟨by omega, fun e2 => by have := (L10.out.nl k e2).2.1; omega⟩⟩
  have G10x : Keep (Grown w10 w11 fun k => (Value.slice aa an ac).ownBlock = some k) := ⟨h2⟩
  have HGX := Keep.mk hgx
  have Q11 : Keep (Blk w11 q 39 #[.int .i64 1, .int .i64 nn, .slice ba bl.length bc, .slice ka kl.length kc]) := ⟨h2.blk Q10.out fun e => by have := (L10.out.ra.typ e).one Q10.out.typ; revert this; decide⟩
  have X11 : Keep (Blk w11 x 36 (lfA h d j (.slice aa an ac) sure)) := ⟨h2.blk L10.out.bx fun e => by have := (L10.out.ra.typ e).one L10.out.bx.typ; revert this; decide⟩
  clear h1 h2 h3 hgx
  obtain ⟨a11, n11, c11, e11, hn11⟩ : ∃ a n c, v11 = .slice a n c ∧ n = (all ++ [bl]).length := by obtain ⟨a, c, e⟩ := P11.out.form; exact ⟨a, _, c, e, rfl⟩
  have HN11 := Keep.mk hn11
  clear hn11
  subst e11
  refine hK _ _ (Q11.out) fun hA11 => ?_
  clear hK
  simp only [Act.put, pqA, pqB, pqC]
  refine tkS (i := 9) (oi := ⟨some 34, Op.nilCheck (Operand.tmp 25), 0, _, _, none⟩) (v := .pointer (some ⟨x, 0, none⟩)) rfl (Or.inl ⟨by rfl, fun w hS => by go_simp⟩) hA11 ?_
  refine tkS (i := 10) (oi := ⟨some 35, Op.fieldAddr 36 (Operand.tmp 34) 3, 0, _, _, none⟩) (v := .pointer (some ⟨x, 3, none⟩)) rfl (Or.inl ⟨by rfl, fun w hS => by go_simp⟩) hA11 ?_
  refine wpAnyH_ready (rs := [11]) (by kernel_rfl) (by simp) ?_
  refine AllReadyH.cons (o := ⟨none, Op.store 23 (Operand.tmp 35) (Operand.tmp 33), 0, _, _, none⟩) rfl (fun K hK => ?_) AllReadyH.nil
  rw [if_pos (by rfl)]
  have f_o := X11.out.frozen 3
  have cl : w11.cell? ⟨x, 3, none⟩ = some (.slice aa an ac) := X11.out.c 3 rfl
  refine wp_cellS (w11.setCell ⟨x, 3, none⟩ (.slice a11 n11 c11)) (by go_simp) ?_
  clear f_o cl
  have hgs : Grown w11 (w11.setCell ⟨x, 3, none⟩ (.slice a11 n11 c11)) fun k => k = x := Grown.setCell w11 x 3 _ fun _ => rfl
  have hg12 : Grown w10 (w11.setCell ⟨x, 3, none⟩ (.slice a11 n11 c11)) fun k => (Value.slice aa an ac).ownBlock = some k ∨ k = x := (G10x.out.mono fun k _ e => .inl e).trans (hgs.mono fun k _ e => .inr e)
  have hxh : x ≠ h := fun e => by have h1 := L10.out.bx.typ; rw [e] at h1; have := h1.one L10.out.bh.typ; revert this; decide
  have hxd : x ≠ d := fun e => by have h1 := L10.out.bx.typ; rw [e] at h1; have := h1.one L10.out.jd.1.typ; revert this; decide
  have hSx : ∀ k, (Value.slice aa an ac).ownBlock = some k ∨ k = x → B ≤ k ∧ ¬ N5 k ∧ k ≠ h ∧ k ≠ d := fun k hk => by
   rcases hk with hk | rfl
   ·exact HGX.out k hk
   ·exact ⟨L10.out.xl, fun e => (L10.out.nl _ e).2.2.1 rfl, hxh, hxd⟩
  have L12 : Keep (LF (w11.setCell ⟨x, 3, none⟩ (.slice a11 n11 c11)) B x h d p j (.slice a11 n11 c11) D5 V5 la5 de5 sure (all ++ [bl]) N5) := ⟨L10.out.put hg12 hSx (X11.out.set 3 (.slice a11 n11 c11)) (P11.out.grown hgs (fun k hk e => by subst e; have := (P11.out.typ hk).one X11.out.typ; revert this; decide) fun k e => by rw [e]; exact L10.out.xl) M11.out⟩
  have Q12 : Keep (Blk (w11.setCell ⟨x, 3, none⟩ (.slice a11 n11 c11)) q 39 #[.int .i64 1, .int .i64 nn, .slice ba bl.length bc, .slice ka kl.length kc]) := ⟨hgs.blk Q11.out fun e => by rw [e] at Q11; have := Q11.out.typ.one X11.out.typ; revert this; decide⟩
  have G12 : Keep (Grown w (w11.setCell ⟨x, 3, none⟩ (.slice a11 n11 c11)) fun k => B ≤ k) := ⟨G10.out.trans (hg12.mono fun k _ e => (hSx k e).1)⟩
  have I12 := Keep.mk (I10.out.grown hg12 fun k e => (hSx k e).1)
  clear hgs hg12 hxh hxd hSx X11 P11 Q11 M11 G10x HGX L10 Q10 G10 R10 I10 L9 Q9 G9 R9 I9 HB10 hg9
  generalize (w11.setCell ⟨x, 3, none⟩ (.slice a11 n11 c11)) = w12 at *
  refine hK _ _ (Q12.out) fun hS12 => ?_
  clear hK
  simp only [Act.put, pqA, pqB, pqC]
  refine wpAnyH_done (by kernel_rfl) ?_ _
  rotate_left
  all_goals
   refine hK3 _ _ ?_
   refine wp_seq_k fun K10 hK10 => ?_
   refine wp_seq_k fun K11 hK11 => rgn ?_
   refine VlS (.int .i64 7) ?_
   refine VlS (.bool true) ?_
   refine WL.nil (hK11 _ _ ?_)
   refine wp_cond_true rfl ?_
   refine wp_seq_k fun K12 hK12 => rgn ?_
   refine VlS (.pointer (some ⟨x, 0, none⟩)) ?_
   refine VlS (vk) ?_
   refine WL.callF (by kernel_rfl) 12 _ _ rfl Tryd.in12 #[ptr x, vk] (by simp [Act.eval]) ?_
   refine (again_life B x h d p j (.slice a11 n11 c11) (vk) kp D5 V5 la5 de5 sure (all ++ [bl]) N5 w12 L12.out CR5.out I12.out (by have := HA.out; have h8 := HAc.out; omega) (by rw [List.length_append, List.length_singleton]; have := Hal.out; omega)).mono ?_
   rintro e w9 ⟨rfl, j9, vA9, D9, V9, k9, N9, a1, a2, a3, a4, a5, a6, a7⟩
   refine ⟨_, rfl, ?_⟩
   have A1 := Keep.mk a1
   have A2 := Keep.mk a2
   have A3 := Keep.mk a3
   have A6 := Keep.mk a6
   have A7 := Keep.mk a7
   clear a1 a2 a3 a4 a5 a6 a7
   simp only [Act.put, pqA, pqB, pqC]
   refine VlS (.bool true) ?_
   refine WL.nil (hK12 _ _ ?_)
   refine wp_ret ?_
   go_ret
   exact ⟨rfl, j9, vA9, D9, V9, false, k9, _, N9, A1.out, A2.out, A3.out, by have h9 := A6.out; have h8 := HAc.out; omega, G12.out.trans A7.out⟩
 ·have JX5 := Keep.mk hjx
  clear hjx H4
  have he0 : ¬ ee = 0 := by omega
  have he7 : ¬ ee = 7 := by omega
  refine rgn ?_
  refine VlS (.int .i64 ee) ?_
  refine VlS (.bool false) ?_
  refine VlS (.bool false) ?_
  refine VlS (.int .i64 ee) ?_
  refine VlS (.bool false) ?_
  refine VlS (.bool false) ?_
  refine WL.nil (hK7 _ _ ?_)
  refine wp_cond_false rfl ?_
  refine wp_skip ?_
  refine hK3 _ _ ?_
  refine wp_seq_k fun K10 hK10 => ?_
  refine wp_seq_k fun K11 hK11 => rgn ?_
  refine VlS (.int .i64 ee) ?_
  refine VlS (.bool false) ?_
  refine WL.nil (hK11 _ _ ?_)
  refine wp_cond_false rfl ?_
  refine wp_skip ?_
  refine hK10 _ _ ?_
  refine wp_seq_k fun K12 hK12 => ?_
  obtain ⟨pa_, pc_, cj⟩ := L5.out.lenj JX5.out HP.out
  rw [← han.out] at cj
  have HS0 : Keep ((w5.drew).cell? ⟨x, 2, none⟩ = some (ptr j) ∧ (w5.drew).cell? ⟨x, 3, none⟩ = some (.slice aa an ac) ∧ (w5.drew).cell? ⟨j, 1, none⟩ = some (.slice pa_ an pc_)) := ⟨⟨L5.out.bx.drew.c 2 rfl, L5.out.bx.drew.c 3 rfl, cj⟩⟩
  clear cj
  refine wp_region_held_drew (S := fun wx => wx.cell? ⟨x, 2, none⟩ = some (ptr j) ∧ wx.cell? ⟨x, 3, none⟩ = some (.slice aa an ac) ∧ wx.cell? ⟨j, 1, none⟩ = some (.slice pa_ an pc_)) (by kernel_rfl) (HS0.out) (fun hHeld => ?_)
  refine tkS (i := 0) (oi := ⟨some 121, Op.move (Operand.tmp 0), 34, _, _, none⟩) (v := .pointer (some ⟨x, 0, none⟩)) rfl (Or.inl ⟨by rfl, fun w hS => by obtain ⟨hS1, hS2, hS3⟩ := hS; go_simp⟩) hHeld ?_
  refine tkS (i := 1) (oi := ⟨some 122, Op.nilCheck (Operand.tmp 121), 0, _, _, none⟩) (v := .pointer (some ⟨x, 0, none⟩)) rfl (Or.inl ⟨by rfl, fun w hS => by obtain ⟨hS1, hS2, hS3⟩ := hS; go_simp⟩) hHeld ?_
  refine tkS (i := 2) (oi := ⟨some 123, Op.fieldAddr 36 (Operand.tmp 122) 2, 0, _, _, none⟩) (v := .pointer (some ⟨x, 2, none⟩)) rfl (Or.inl ⟨by rfl, fun w hS => by obtain ⟨hS1, hS2, hS3⟩ := hS; go_simp⟩) hHeld ?_
  refine tkS (i := 3) (oi := ⟨some 124, Op.load 22 (Operand.tmp 123), 22, _, _, none⟩) (v := .pointer (some ⟨j, 0, none⟩)) rfl (Or.inl ⟨by rfl, fun w hS => by obtain ⟨hS1, hS2, hS3⟩ := hS; go_simp⟩) hHeld ?_
  refine tkS (i := 5) (oi := ⟨some 126, Op.move (Operand.tmp 0), 34, _, _, none⟩) (v := .pointer (some ⟨x, 0, none⟩)) rfl (Or.inl ⟨by rfl, fun w hS => by obtain ⟨hS1, hS2, hS3⟩ := hS; go_simp⟩) hHeld ?_
  refine tkS (i := 6) (oi := ⟨some 127, Op.nilCheck (Operand.tmp 126), 0, _, _, none⟩) (v := .pointer (some ⟨x, 0, none⟩)) rfl (Or.inl ⟨by rfl, fun w hS => by obtain ⟨hS1, hS2, hS3⟩ := hS; go_simp⟩) hHeld ?_
  refine tkS (i := 7) (oi := ⟨some 128, Op.fieldAddr 36 (Operand.tmp 127) 3, 0, _, _, none⟩) (v := .pointer (some ⟨x, 3, none⟩)) rfl (Or.inl ⟨by rfl, fun w hS => by obtain ⟨hS1, hS2, hS3⟩ := hS; go_simp⟩) hHeld ?_
  refine tkS (i := 8) (oi := ⟨some 129, Op.load 23 (Operand.tmp 128), 23, _, _, none⟩) (v := .slice aa an ac) rfl (Or.inl ⟨by rfl, fun w hS => by obtain ⟨hS1, hS2, hS3⟩ := hS; go_simp⟩) hHeld ?_
  refine tkS (i := 9) (oi := ⟨some 130, Op.call { callee := Callee.builtin Builtin.len, args := #[Operand.tmp 129], argTypes := #[23] }, 3, _, _, none⟩) (v := .int .i64 (an : Int)) rfl (Or.inl ⟨by rfl, fun w hS => by obtain ⟨hS1, hS2, hS3⟩ := hS; go_simp⟩) hHeld ?_
  refine wpAnyH_ready (rs := [4]) (by kernel_rfl) (by simp) ?_
  refine AllReadyH.cons (o := ⟨some 125, Op.call { callee := Callee.value (Operand.func 26), args := #[Operand.tmp 124], argTypes := #[22] }, 3, _, _, none⟩) rfl (fun K hK => ?_) AllReadyH.nil
  rw [if_pos (by rfl)]
  refine wp_callF 26 _ _ rfl Tryd.in26 #[ptr j] (by simp [Act.eval]) (fun vz wz => vz = .int .i64 (an : Int) ∧ wz = w5.drew) ?_ ?_
  ·refine (len_any j pa_ an pc_ w5.drew HS0.out.2.2).mono ?_
   rintro e wz ⟨rfl, rfl⟩
   exact ⟨_, rfl, rfl, rfl⟩
  rintro vz _ ⟨rfl, rfl⟩
  skip
  refine hK _ _ (HS0.out) fun hH9 => ?_
  clear hK
  simp only [Act.put, pqA, pqB, pqC]
  refine tkS (i := 10) (oi := ⟨some 131, Op.binOp BinOp.eql 3 (Operand.tmp 125) (Operand.tmp 130) 3, 4, _, _, none⟩) (v := .bool true) rfl (Or.inl ⟨by rfl, fun w hS => by obtain ⟨hS1, hS2, hS3⟩ := hS; go_simp⟩) hH9 ?_
  refine tkS (i := 11) (oi := ⟨some 6, Op.assign (Operand.tmp 131), 4, _, _, none⟩) (v := .bool true) rfl (Or.inl ⟨by rfl, fun w hS => by obtain ⟨hS1, hS2, hS3⟩ := hS; go_simp⟩) hH9 ?_
  refine wpAnyH_done (by kernel_rfl) ?_ _
  refine hK12 _ _ ?_
  refine wp_ret ?_
  go_ret
  exact ⟨rfl, j, .slice aa an ac, D5, V5, la5, sure, all, N5, L5.out.drew, JX5.out, HP.out, by have h8 := HAc.out; omega, GB5.out.drew⟩
theorem LF.setx {w w' : World} {B x h d p j : Nat} {vA vA' : Value} {D : DV} {V : JV} {la de : Bool} {sure sure' : Nat} {all all' : List (List Int)} {N : Nat → Prop} (l : LF w B x h d p j vA D V la de sure all N) (hg : Grown w w' fun k => k = x) (hb : Blk w' x 36 (lfA h d j vA' sure')) (ra : RwA w vA' all' B) (hv : vA'.ownBlock = vA.ownBlock) : LF w' B x h d p j vA' D V la de sure' all' N := by
 have hxh : x ≠ h := fun e => by have h1 := l.bx.typ; rw [e] at h1; have := h1.one l.bh.typ; revert this; decide
 have hxd : x ≠ d := fun e => by have h1 := l.bx.typ; rw [e] at h1; have := h1.one l.jd.1.typ; revert this; decide
 refine l.put hg (fun k e => ?_) hb (ra.grown hg (fun k hk e => ?_) fun k e => by rw [e]; exact l.xl) fun k hk => l.ga k (by rw [← hv]; exact hk)
 ·subst e
  exact ⟨l.xl, fun e => (l.nl _ e).2.2.1 rfl, hxh, hxd⟩
 ·subst e
  have := (ra.typ hk).one l.bx.typ
  revert this
  decide
set_option maxRecDepth 8000 in
set_option maxHeartbeats 4000000 in
theorem does_sync (B x h d p j : Nat) (vA vk : Value) (kp : List Int) (nn : Int) (ba : Option Addr) (bl : List Int) (bc : Nat) (ka : Option Addr) (kl : List Int) (kc : Nat) (D : DV) (V : JV) (la : Bool) (sure : Nat) (all : List (List Int)) (N : Nat → Prop) (w : World) (hL : LF w B x h d p j vA D V la false sure all N) (hX : JX D V la sure) (hP : V.ps = all) (hK : IntsB w vk kp B) (hKs : IntsB w (.slice ka kl.length kc) kl B) (hR : RowB w (.slice ba bl.length bc) bl B) (hBy : Byts bl) (hn : nn ≤ 9223372036854775807) (hA : D.acts ≤ 4611686018427370000) : Calls Tryd.prog 11 #[ptr x, .agg #[.int .i64 2, .int .i64 nn, .slice ba bl.length bc, .slice ka kl.length kc], vk] w (DoPost B x h d p D w) := by
 obtain ⟨aa, ac, rfl⟩ := hL.ra.form
 obtain ⟨an, han⟩ : ∃ z, Keep (z = all.length) := ⟨_, ⟨rfl⟩⟩
 rw [← han.out] at hL
 have Hal : Keep (all.length ≤ 285216768) := ⟨by rw [← hP]; exact hX.ji.few.1⟩
 have HL := Keep.mk hL
 have HX := Keep.mk hX
 have HP := Keep.mk hP
 have HK := Keep.mk hK
 have HKs := Keep.mk hKs
 have HR := Keep.mk hR
 have HBy := Keep.mk hBy
 have Hn := Keep.mk hn
 have HA := Keep.mk hA
 have HNx : Keep (¬ N x ∧ ¬ N 0 ∧ ¬ N d) := ⟨fun e => (hL.nl x e).2.2.1 rfl, fun e => by have := (hL.nl 0 e).1; have := hL.pos; omega, fun e => (hL.nl d e).2.2.2.2 rfl⟩
 clear hL hX hP hK hKs hR hBy hn hA
 go_enter Tryd.func11, Tryd.ntmps11
 refine wp_seq_k fun K1 hK1 => rgn ?_
 refine WL.box (by kernel_rfl) 39 (.tmp 1) rfl #[.int .i64 2, .int .i64 nn, .slice ba bl.length bc, .slice ka kl.length kc] rfl ?_
 have hbx := below_new w (.cells #[.int .i64 2, .int .i64 nn, .slice ba bl.length bc, .slice ka kl.length kc] 39)
 have Q1 := Keep.mk (Blk.new w 39 #[.int .i64 2, .int .i64 nn, .slice ba bl.length bc, .slice ka kl.length kc])
 have L1 := Keep.mk (HL.out.below hbx)
 have I1 := Keep.mk (HK.out.grown (Grown.below (S := fun k => B ≤ k) hbx) fun _ h => h)
 have IB1 := Keep.mk (HKs.out.grown (Grown.below (S := fun k => B ≤ k) hbx) fun _ h => h)
 have R1 := Keep.mk (HR.out.grown (Grown.below (S := fun k => B ≤ k) hbx) fun _ h => h)
 have GB1 : Keep (Grown w (w.alloc (.cells #[.int .i64 2, .int .i64 nn, .slice ba bl.length bc, .slice ka kl.length kc] 39)) fun k => B ≤ k) := ⟨Grown.below hbx⟩
 clear hbx
 change WL _ _ _ _ _ (w.alloc (.cells #[.int .i64 2, .int .i64 nn, .slice ba bl.length bc, .slice ka kl.length kc] 39))
 generalize w.alloc (.cells #[.int .i64 2, .int .i64 nn, .slice ba bl.length bc, .slice ka kl.length kc] 39) = w1 at *
 obtain ⟨q, hq⟩ : ∃ q, Keep (q = w.heap.size) := ⟨_, ⟨rfl⟩⟩
 rw [← hq.out] at Q1 ⊢
 have HqN : Keep (¬ N q) := ⟨fun e => by have := (HL.out.nl q e).2.1; rw [hq.out] at this; omega⟩
 have c0 := Q1.out.c 0 (by rfl : (#[.int .i64 2, .int .i64 nn, .slice ba bl.length bc, .slice ka kl.length kc] : Array Value)[0]? = some (.int .i64 2))
 simp only [Act.put, pqA, pqB, pqC]
 refine VlS (.bool false) ?_
 refine WL.nil (hK1 _ _ ?_)
 refine wp_seq_k fun K2 hK2 => rgn ?_
 refine VlS (.int .i64 0) ?_
 refine WL.nil (hK2 _ _ ?_)
 refine wp_seq_k fun K3 hK3 => ?_
 refine wp_seq_k fun K4 hK4 => rgn ?_
 refine VlS (.pointer (some ⟨q, 0, none⟩)) ?_
 refine VlS (.int .i64 2) ?_
 refine WL.nil (hK4 _ _ ?_)
 refine wp_block ?_
 refine wp_seq_k fun K5 hK5 => rgn ?_
 refine VlS (.bool false) ?_
 refine VlS (.bool false) ?_
 refine WL.nil (hK5 _ _ ?_)
 refine wp_cond_false rfl ?_
 refine wp_seq_k fun K6 hK6 => rgn ?_
 refine VlS (.bool true) ?_
 refine VlS (.bool true) ?_
 refine WL.nil (hK6 _ _ ?_)
 refine wp_cond_true rfl ?_
 refine wp_seq_k fun K7 hK7 => ?_
 clear c0
 have cj := L1.out.bx.c 2 (by rfl : (lfA h d j (.slice aa an ac) sure)[2]? = some (ptr j))
 refine rgn ?_
 refine VlS (.pointer (some ⟨x, 0, none⟩)) ?_
 refine VlS (.pointer (some ⟨x, 0, none⟩)) ?_
 refine VlS (.pointer (some ⟨x, 2, none⟩)) ?_
 refine VlS (.pointer (some ⟨j, 0, none⟩)) ?_
 refine WL.callF (by kernel_rfl) 25 _ _ rfl Tryd.in25 #[ptr j] (by simp [Act.eval]) ?_
 refine (jsync_any j d p D V la sure N w1 L1.out.tab L1.out.jd HNx.out.2.1 HNx.out.2.2 HX.out (by have := HA.out; omega)).mono ?_
 rintro e w5 ⟨ee, D5, la5, de5, rfl, h1, h2, h3, h4⟩
 refine ⟨_, rfl, ?_⟩
 clear cj
 have Q0 := Q1
 have G0 := GB1
 have I0 := I1
 have L5 := Keep.mk (L1.out.step h1 h2)
 have Q5 : Keep (Blk w5 q 39 #[.int .i64 2, .int .i64 nn, .slice ba bl.length bc, .slice ka kl.length kc]) := ⟨h2.blk Q0.out HqN.out⟩
 have hgB : Grown w1 w5 fun k => B ≤ k := h2.mono fun k _ e => (HL.out.nl k e).1
 have G5 : Keep (Grown w w5 fun k => B ≤ k) := ⟨G0.out.trans hgB⟩
 have I5 := Keep.mk (I0.out.grown hgB fun _ h => h)
 have HAc := Keep.mk h3
 have H4 := Keep.mk h4
 clear h1 h2 h3 h4 hgB
 obtain ⟨N5, hN5⟩ : ∃ z, Keep (z = JN2 N w1.heap.size w5.heap.size) := ⟨_, ⟨rfl⟩⟩
 rw [← hN5.out] at L5
 clear Q0 G0 I0 L1 Q1 GB1 I1 IB1 R1
 simp only [Act.put, pqA, pqB, pqC]
 refine VlS (.int .i64 ee) ?_
 refine WL.nil (hK7 _ _ ?_)
 refine wp_seq_k fun K8 hK8 => ?_
 rcases H4.out with ⟨rfl, rfl, hjx⟩ | ⟨rfl, hcr⟩
 ·have JX5 : Keep (JX D5 V la5 all.length) := ⟨by rw [HP.out] at hjx; exact hjx⟩
  clear hjx H4
  refine rgn ?_
  refine VlS (.int .i64 0) ?_
  refine VlS (.bool true) ?_
  refine WL.nil (hK8 _ _ ?_)
  refine wp_cond_true rfl ?_
  have c3 := L5.out.bx.c 3 (by rfl : (lfA h d j (.slice aa an ac) sure)[3]? = some (.slice aa an ac))
  refine rgn ?_
  refine VlS (.pointer (some ⟨x, 0, none⟩)) ?_
  refine VlS (.pointer (some ⟨x, 0, none⟩)) ?_
  refine VlS (.pointer (some ⟨x, 0, none⟩)) ?_
  refine VlS (.pointer (some ⟨x, 3, none⟩)) ?_
  refine VlS (.slice aa an ac) ?_
  refine VlS (.int .i64 (an : Int)) ?_
  refine VlS (.pointer (some ⟨x, 0, none⟩)) ?_
  refine VlS (.pointer (some ⟨x, 4, none⟩)) ?_
  clear c3
  have f_o := L5.out.bx.frozen 4
  have cl : w5.cell? ⟨x, 4, none⟩ = some (.int .i64 (sure : Int)) := L5.out.bx.c 4 rfl
  refine WL.cell (by kernel_rfl) (w5.setCell ⟨x, 4, none⟩ (.int .i64 (an : Int))) (by go_simp) ?_
  clear f_o cl
  have hgs : Grown w5 (w5.setCell ⟨x, 4, none⟩ (.int .i64 (an : Int))) fun k => k = x := Grown.setCell w5 x 4 _ fun _ => rfl
  have hxB : ∀ k, k = x → B ≤ k := fun k e => by rw [e]; exact L5.out.xl
  have L6 := Keep.mk (L5.out.setx hgs (vA' := .slice aa an ac) (sure' := an) (all' := all) (L5.out.bx.set 4 (.int .i64 (an : Int))) L5.out.ra rfl)
  have Q6 : Keep (Blk (w5.setCell ⟨x, 4, none⟩ (.int .i64 (an : Int))) q 39 #[.int .i64 2, .int .i64 nn, .slice ba bl.length bc, .slice ka kl.length kc]) := ⟨hgs.blk Q5.out fun e => by have h1 := Q5.out.typ; rw [e] at h1; have := h1.one L5.out.bx.typ; revert this; decide⟩
  have G6 : Keep (Grown w (w5.setCell ⟨x, 4, none⟩ (.int .i64 (an : Int))) fun k => B ≤ k) := ⟨G5.out.trans (hgs.mono fun k _ e => hxB k e)⟩
  have I6 := Keep.mk (I5.out.grown hgs hxB)
  clear hgs hxB L5 Q5 G5 I5
  generalize (w5.setCell ⟨x, 4, none⟩ (.int .i64 (an : Int))) = w6 at *
  simp only [Act.put]
  refine WL.nil (hK3 _ _ ?_)
  refine wp_seq_k fun K9 hK9 => ?_
  refine wp_seq_k fun K10 hK10 => rgn ?_
  refine VlS (.int .i64 0) ?_
  refine VlS (.bool false) ?_
  refine WL.nil (hK10 _ _ ?_)
  refine wp_cond_false rfl ?_
  refine wp_skip ?_
  refine hK9 _ _ ?_
  refine wp_seq_k fun K11 hK11 => ?_
  obtain ⟨pa_, pc_, cj⟩ := L6.out.lenj JX5.out HP.out
  rw [← han.out] at cj
  have HS0 : Keep ((w6.drew).cell? ⟨x, 2, none⟩ = some (ptr j) ∧ (w6.drew).cell? ⟨x, 3, none⟩ = some (.slice aa an ac) ∧ (w6.drew).cell? ⟨j, 1, none⟩ = some (.slice pa_ an pc_)) := ⟨⟨L6.out.bx.drew.c 2 rfl, L6.out.bx.drew.c 3 rfl, cj⟩⟩
  clear cj
  refine wp_region_held_drew (S := fun wx => wx.cell? ⟨x, 2, none⟩ = some (ptr j) ∧ wx.cell? ⟨x, 3, none⟩ = some (.slice aa an ac) ∧ wx.cell? ⟨j, 1, none⟩ = some (.slice pa_ an pc_)) (by kernel_rfl) (HS0.out) (fun hHeld => ?_)
  refine tkS (i := 0) (oi := ⟨some 121, Op.move (Operand.tmp 0), 34, _, _, none⟩) (v := .pointer (some ⟨x, 0, none⟩)) rfl (Or.inl ⟨by rfl, fun w hS => by obtain ⟨hS1, hS2, hS3⟩ := hS; go_simp⟩) hHeld ?_
  refine tkS (i := 1) (oi := ⟨some 122, Op.nilCheck (Operand.tmp 121), 0, _, _, none⟩) (v := .pointer (some ⟨x, 0, none⟩)) rfl (Or.inl ⟨by rfl, fun w hS => by obtain ⟨hS1, hS2, hS3⟩ := hS; go_simp⟩) hHeld ?_
  refine tkS (i := 2) (oi := ⟨some 123, Op.fieldAddr 36 (Operand.tmp 122) 2, 0, _, _, none⟩) (v := .pointer (some ⟨x, 2, none⟩)) rfl (Or.inl ⟨by rfl, fun w hS => by obtain ⟨hS1, hS2, hS3⟩ := hS; go_simp⟩) hHeld ?_
  refine tkS (i := 3) (oi := ⟨some 124, Op.load 22 (Operand.tmp 123), 22, _, _, none⟩) (v := .pointer (some ⟨j, 0, none⟩)) rfl (Or.inl ⟨by rfl, fun w hS => by obtain ⟨hS1, hS2, hS3⟩ := hS; go_simp⟩) hHeld ?_
  refine tkS (i := 5) (oi := ⟨some 126, Op.move (Operand.tmp 0), 34, _, _, none⟩) (v := .pointer (some ⟨x, 0, none⟩)) rfl (Or.inl ⟨by rfl, fun w hS => by obtain ⟨hS1, hS2, hS3⟩ := hS; go_simp⟩) hHeld ?_
  refine tkS (i := 6) (oi := ⟨some 127, Op.nilCheck (Operand.tmp 126), 0, _, _, none⟩) (v := .pointer (some ⟨x, 0, none⟩)) rfl (Or.inl ⟨by rfl, fun w hS => by obtain ⟨hS1, hS2, hS3⟩ := hS; go_simp⟩) hHeld ?_
  refine tkS (i := 7) (oi := ⟨some 128, Op.fieldAddr 36 (Operand.tmp 127) 3, 0, _, _, none⟩) (v := .pointer (some ⟨x, 3, none⟩)) rfl (Or.inl ⟨by rfl, fun w hS => by obtain ⟨hS1, hS2, hS3⟩ := hS; go_simp⟩) hHeld ?_
  refine tkS (i := 8) (oi := ⟨some 129, Op.load 23 (Operand.tmp 128), 23, _, _, none⟩) (v := .slice aa an ac) rfl (Or.inl ⟨by rfl, fun w hS => by obtain ⟨hS1, hS2, hS3⟩ := hS; go_simp⟩) hHeld ?_
  refine tkS (i := 9) (oi := ⟨some 130, Op.call { callee := Callee.builtin Builtin.len, args := #[Operand.tmp 129], argTypes := #[23] }, 3, _, _, none⟩) (v := .int .i64 (an : Int)) rfl (Or.inl ⟨by rfl, fun w hS => by obtain ⟨hS1, hS2, hS3⟩ := hS; go_simp⟩) hHeld ?_
  refine wpAnyH_ready (rs := [4]) (by kernel_rfl) (by simp) ?_
  refine AllReadyH.cons (o := ⟨some 125, Op.call { callee := Callee.value (Operand.func 26), args := #[Operand.tmp 124], argTypes := #[22] }, 3, _, _, none⟩) rfl (fun K hK => ?_) AllReadyH.nil
  rw [if_pos (by rfl)]
  refine wp_callF 26 _ _ rfl Tryd.in26 #[ptr j] (by simp [Act.eval]) (fun vz wz => vz = .int .i64 (an : Int) ∧ wz = w6.drew) ?_ ?_
  ·refine (len_any j pa_ an pc_ w6.drew HS0.out.2.2).mono ?_
   rintro e wz ⟨rfl, rfl⟩
   exact ⟨_, rfl, rfl, rfl⟩
  rintro vz _ ⟨rfl, rfl⟩
  skip
  refine hK _ _ (HS0.out) fun hH9 => ?_
  clear hK
  simp only [Act.put, pqA, pqB, pqC]
  refine tkS (i := 10) (oi := ⟨some 131, Op.binOp BinOp.eql 3 (Operand.tmp 125) (Operand.tmp 130) 3, 4, _, _, none⟩) (v := .bool true) rfl (Or.inl ⟨by rfl, fun w hS => by obtain ⟨hS1, hS2, hS3⟩ := hS; go_simp⟩) hH9 ?_
  refine tkS (i := 11) (oi := ⟨some 6, Op.assign (Operand.tmp 131), 4, _, _, none⟩) (v := .bool true) rfl (Or.inl ⟨by rfl, fun w hS => by obtain ⟨hS1, hS2, hS3⟩ := hS; go_simp⟩) hH9 ?_
  refine wpAnyH_done (by kernel_rfl) ?_ _
  refine hK11 _ _ ?_
  refine wp_ret ?_
  go_ret
  exact ⟨rfl, j, .slice aa an ac, D5, V, la5, an, all, N5, L6.out.drew, by rw [han.out]; exact JX5.out, HP.out, by have h8 := HAc.out; omega, G6.out.drew⟩
 ·have CR5 : Keep (CR D5 all sure) := ⟨by rw [HP.out] at hcr; exact hcr⟩
  clear hcr H4
  refine rgn ?_
  refine VlS (.int .i64 7) ?_
  refine VlS (.bool false) ?_
  refine WL.nil (hK8 _ _ ?_)
  refine wp_cond_false rfl ?_
  refine wp_skip ?_
  refine hK3 _ _ ?_
  refine wp_seq_k fun K12 hK12 => ?_
  refine wp_seq_k fun K13 hK13 => rgn ?_
  refine VlS (.int .i64 7) ?_
  refine VlS (.bool true) ?_
  refine WL.nil (hK13 _ _ ?_)
  refine wp_cond_true rfl ?_
  refine wp_seq_k fun K14 hK14 => rgn ?_
  refine VlS (.pointer (some ⟨x, 0, none⟩)) ?_
  refine VlS (vk) ?_
  refine WL.callF (by kernel_rfl) 12 _ _ rfl Tryd.in12 #[ptr x, vk] (by simp [Act.eval]) ?_
  refine (again_life B x h d p j (.slice aa an ac) (vk) kp D5 V la5 de5 sure all N5 w5 L5.out CR5.out I5.out (by have := HA.out; have h8 := HAc.out; omega) (by have := Hal.out; omega)).mono ?_
  rintro e w9 ⟨rfl, j9, vA9, D9, V9, k9, N9, a1, a2, a3, a4, a5, a6, a7⟩
  refine ⟨_, rfl, ?_⟩
  have A1 := Keep.mk a1
  have A2 := Keep.mk a2
  have A3 := Keep.mk a3
  have A6 := Keep.mk a6
  have A7 := Keep.mk a7
  clear a1 a2 a3 a4 a5 a6 a7
  simp only [Act.put, pqA, pqB, pqC]
  refine VlS (.bool true) ?_
  refine WL.nil (hK14 _ _ ?_)
  refine wp_ret ?_
  go_ret
  exact ⟨rfl, j9, vA9, D9, V9, false, k9, _, N9, A1.out, A2.out, A3.out, by have h9 := A6.out; have h8 := HAc.out; omega, G5.out.trans A7.out⟩
end Go.Proofs.YtennogmeeefopaaDoor
