import Derived.Test.YteijjfeainamdaaGreatDoorA06
import Derived.Test.YteijjfeainamdaaGreatDoorA07
import Derived.Deep.RegionHeld3
namespace Go.Proofs.YteijjfeainamdaaGreatDoor
open Go.RowKit
set_option linter.unusedSimpArgs false
set_option linter.unusedVariables false

theorem Tryz.in18 (w : World) (vs : Array Value) : (callFunc 18 vs).run Tryz.prog w = .ok (.enter 18 vs) w := by kernel_rfl
theorem Tryz.in19 (w : World) (vs : Array Value) : (callFunc 19 vs).run Tryz.prog w = .ok (.enter 19 vs) w := by kernel_rfl
def pL (l : List (Int × Int)) : List Value := l.flatMap fun c => [.int .i64 c.1, .int .i64 c.2]
theorem pL_len : ∀ l : List (Int × Int), (pL l).length = l.length * 2
 | [] => rfl
 | c :: r => by simp [pL]; have := pL_len r; simp [pL] at this; omega
theorem pL_one (l : List (Int × Int)) : ∀ u ∈ pL l, u.oneCell' = true := fun u hu => by
 simp [pL] at hu
 obtain ⟨a, b, _, rfl | rfl⟩ := hu <;> rfl
def OwnP (w : World) (v : Value) (l : List (Int × Int)) : Prop := w.ownsRow 0 97 2 v l.length (pL l)
theorem ownP_nil (w : World) : OwnP w (.slice none 0 0) [] := ⟨rfl, .inl ⟨rfl, rfl⟩⟩
theorem OwnP.sl {w : World} {v : Value} {l : List (Int × Int)} (h : OwnP w v l) : ∃ a c, v = .slice a l.length c := by
 rcases h.2 with ⟨rfl, h0⟩ | ⟨g, cap, cur, rfl, _⟩
 ·have : l.length = 0 := by have h1 := h.1; rw [h0] at h1; have := pL_len l; simp at h1; omega
  exact ⟨none, 0, by rw [this]⟩
 ·exact ⟨_, _, rfl⟩
theorem OwnP.grown {w w' : World} {v : Value} {l : List (Int × Int)} {S : Nat → Prop} (h : OwnP w v l) (hg : Grown w w' S) (hs : ∀ k, v.ownBlock = some k → ¬ S k) : OwnP w' v l := by
 rcases h with ⟨h1, h2 | ⟨g, cap, cur, h2, h3, h4, h5⟩⟩
 ·exact ⟨h1, .inl h2⟩
 ·exact ⟨h1, .inr ⟨g, cap, cur, h2, h3, hg.blk h4 (hs g (by rw [h2]; rfl)), h5⟩⟩
theorem OwnP.typ {w : World} {v : Value} {l : List (Int × Int)} (h : OwnP w v l) {k : Nat} (hk : v.ownBlock = some k) : Typ w k 97 := by
 rcases h.2 with ⟨rfl, _⟩ | ⟨g, cap, cur, rfl, _, h4, _⟩
 ·cases hk
 ·obtain rfl : g = k := Option.some.inj hk
  exact Blk.typ h4
theorem Tryz.infoPl : (Tryz.prog.info? 97).map (fun i => (i.zero, i.size, i.bytes)) = some (some (.agg #[.int .i64 (0), .int .i64 (0)]), 2, 16) := by kernel_rfl
theorem run_appP (w : World) (ty : TypeId) (v : Value) (l : List (Int × Int)) (hown : OwnP w v l) (g c : Nat) (x : Int × Int) (hg : Blk w g 97 #[.int .i64 (x.1), .int .i64 (x.2)]) (hb : l.length ≤ 1000000000000) :
  ∃ v' w', (Builtin.append_ #[90, 90] ty #[v, .slice (some ⟨g, 0, none⟩) 1 c]).run Tryz.prog w = .ok v' w' ∧ OwnP w' v' (l ++ [x]) ∧ (Grown w w' fun k => v.ownBlock = some k) ∧ Moved w v v' := by
 obtain ⟨i, hi, hzz⟩ := Option.map_eq_some_iff.1 Tryz.infoPl
 simp only [Prod.mk.injEq] at hzz
 obtain ⟨hz, hsz, hby⟩ := hzz
 obtain ⟨v', w', hr, h1, h2, _, h3⟩ := run_append_own_at (P := Tryz.prog) w 0 90 ty 97 i (.agg #[.int .i64 (0), .int .i64 (0)]) 2 16 Tryz.underlying90 hi hz hsz hby rfl (by omega) v l.length (pL l) hown ⟨g, 0, none⟩ 1 c (pL [x]) rfl (fun j u hu => by
   rw [Addr.add_mid, Nat.zero_add, hg.cell]; simpa [pL] using hu)
  (pL_one _) (by unfold maxLen; omega) (by omega) (Nat.zero_le _)
 refine ⟨v', w', hr, ?_, Grown.of h2 fun k _ e => e, ?_⟩
 ·unfold OwnP
  rw [List.length_append, show pL (l ++ [x]) = pL l ++ pL [x] by simp [pL]]
  exact h1
 ·rcases h3 with h3 | h3
  ·exact .inl h3
  ·exact .inr ⟨_, h3, Nat.le_refl _⟩
theorem wp_appP {Q : Exit → Act → World → Prop} {o : Oper} {a : Act} {w : World} {K : Act → World → Prop} (s x : Operand)
  (ho : o.op = .call { callee := .builtin .append, args := #[s, x], argTypes := #[90, 90] }) (v : Value) (l : List (Int × Int)) (g c : Nat) (y : Int × Int)
  (hs : a.eval s = v) (hx : a.eval x = .slice (some ⟨g, 0, none⟩) 1 c) (hown : OwnP w v l) (hg : Blk w g 97 #[.int .i64 (y.1), .int .i64 (y.2)]) (hb : l.length ≤ 1000000000000)
  (h : ∀ v' w', OwnP w' v' (l ++ [y]) → (Grown w w' fun k => v.ownBlock = some k) → Moved w v v' → K (a.put o.dst v') w') : o.wp Tryz.prog a w K Q := by
 obtain ⟨v', w', hr, h1, h2, h3⟩ := run_appP w o.type v l hown g c y hg hb
 unfold Oper.wp execOp
 simp only [ho, resolve, invoke, builtin, Sem.run_bind, Sem.run_pure, Result.andThen_ok, List.map_toArray, List.map_cons, List.map_nil, hs, hx, hr]
 exact h v' w' h1 h2 h3
theorem bsP (a b : Int) (w : World) : (Instr.buildSlice 90 1 #[(0, .agg #[.int .i64 (a), .int .i64 (b)])]).run Tryz.prog w = .ok (.slice (some ⟨w.heap.size, 0, none⟩) 1 1) (w.alloc (.cells #[.int .i64 (a), .int .i64 (b)] 97)) := by kernel_rfl
theorem wp_bs {P : Program} {o : Oper} {a : Act} {w : World} {K : Act → World → Prop} {Q : Exit → Act → World → Prop} (t : TypeId) (n : Nat) (parts : Array (Nat × Operand)) (ho : o.op = .buildSlice t n parts)
  (vs : Array (Nat × Value)) (hv : parts.map (fun x => (x.1, a.eval x.2)) = vs) (v : Value) (w' : World) (hrun : (Instr.buildSlice t n vs).run P w = .ok v w') (h : K (a.put o.dst v) w') : o.wp P a w K Q := by
 unfold Oper.wp execOp
 simp only [ho, hv, Sem.run_bind, hrun, Result.andThen_ok, Sem.run_pure]
 exact h
theorem nm0_rgt : rgt (nmS 0) = true := by rw [nmS_0]; decide +kernel
set_option maxRecDepth 8000 in
set_option maxHeartbeats 2000000 in
theorem japp_none (g d p i : Nat) (v vf vp : Value) (l : List Int) (cs : List FC) (D : DV) (pl : List (Int × Int)) (sz : Int) (la : Bool) (w : World) (hT : Tab w) (hJ : Blk w g 92 (jA d vp (-1) sz la false)) (hDk : Blk w d 67 #[ptr p]) (hD : DskAt w p vf cs D) (hPl : OwnP w vp pl) (hPp : ∀ k, vp.ownBlock = some k → k ≠ p) (hPn : pl.length ≤ 1000000000) (hO : D.out = false) (hF : fnd (nmS 0) D.fs 0 = (i, false)) (hC : cs.length < 256)
  (hL : 1 ≤ (l.length : Int) ∧ (l.length : Int) ≤ 1048576) (hU : 0 ≤ D.used ∧ 0 ≤ D.room ∧ D.room ≤ 70368744177664 ∧ 16 + (l.length : Int) ≤ D.room - D.used) (hA : 0 ≤ D.acts ∧ D.acts ≤ 4611686018427387904) (hFu : -9223372036854775808 < D.fuse ∧ D.fuse ≤ 9223372036854775807 ∧ ¬ D.fuse = 0) (hR : RowAt w v l) :
  Calls Tryz.prog 18 #[ptr g, v] w fun e w' => e = .returned (.int .i64 0) ∧ ∃ vp' vf' cs', Blk w' g 92 (jA d vp' 0 (16 + (l.length : Int)) true false) ∧ OwnP w' vp' (pl ++ [(0, 0)]) ∧ DskAt w' p vf' cs' (D.appNew i (nmS 0) (hl 16 (hdF l) ++ l)) ∧ (Grown w w' fun k => k = p ∨ k = g ∨ vp.ownBlock = some k) ∧ (∀ k, DskS p vf' cs' k → DskS p vf cs k ∨ w.heap.size ≤ k) ∧ ∀ k, vp'.ownBlock = some k → vp.ownBlock = some k ∨ w.heap.size ≤ k := by
 obtain ⟨ba, bc, rfl⟩ := row_form hR
 obtain ⟨pa, pc, rfl⟩ := hPl.sl
 have HZ : Keep (0 < w.heap.size) := ⟨Nat.lt_of_le_of_lt (Nat.zero_le _) hJ.lt⟩
 have HT := Keep.mk hT
 have HJ := Keep.mk hJ
 have HDk := Keep.mk hDk
 have HD := Keep.mk hD
 have HPl := Keep.mk hPl
 have HPp := Keep.mk hPp
 have HPn := Keep.mk hPn
 have HPw : Keep (∀ k, (Value.slice pa pl.length pc).ownBlock = some k → k < w.heap.size) := ⟨fun k hk => (hPl.typ hk).lt⟩
 have HPg : Keep (∀ k, (Value.slice pa pl.length pc).ownBlock = some k → k ≠ g) := ⟨fun k hk e => by subst e; have := (hPl.typ hk).one hJ.typ; revert this; decide⟩
 have HO := Keep.mk hO
 have HF := Keep.mk hF
 have HC := Keep.mk hC
 have HL := Keep.mk hL
 have HU := Keep.mk hU
 have HA := Keep.mk hA
 have HFu := Keep.mk hFu
 have HR := Keep.mk hR
 clear hT hJ hDk hD hPl hPp hPn hO hF hC hL hU hA hFu hR
 go_enter Tryz.func18, Tryz.ntmps18
 have c5 := HJ.out.c 5 (by rfl : (jA d (.slice pa pl.length pc) (-1) sz la false)[5]? = some (.bool false))
 have hl0 : ¬ (l.length : Int) = 0 := by have := HL.out; omega
 have hl1 : ¬ (1048576 : Int) < (l.length : Int) := by have := HL.out; omega
 have hln : ¬ l.length = 0 := by have := HL.out; omega
 have hwl : IntKind.i64.wrap (16 + (l.length : Int)) = 16 + (l.length : Int) := by rw [IntKind.wrap_i64]; have := HL.out; omega
 refine wp_seq_k fun K1 hK1 => rgn ?_
 refine VlS (.int .i64 0) ?_
 refine WL.nil (hK1 _ _ ?_)
 refine wp_seq_k fun K2 hK2 => ?_
 refine wp_block ?_
 refine wp_seq_k fun K3 hK3 => rgn ?_
 refine VlS (.pointer (some ⟨g, 0, none⟩)) ?_
 refine VlS (.pointer (some ⟨g, 0, none⟩)) ?_
 refine VlS (.pointer (some ⟨g, 5, none⟩)) ?_
 refine VbF ?_
 refine VbF ?_
 refine WL.nil (hK3 _ _ ?_)
 refine wp_cond_false rfl ?_
 refine wp_seq_k fun K4 hK4 => rgn ?_
 refine VlS (.slice ba l.length bc) ?_
 refine VlS (.int .i64 (l.length : Int)) ?_
 refine VbF ?_
 refine VbF ?_
 refine WL.nil (hK4 _ _ ?_)
 refine wp_cond_false rfl ?_
 refine wp_seq_k fun K5 hK5 => rgn ?_
 refine VlS (.slice ba l.length bc) ?_
 refine VlS (.int .i64 (l.length : Int)) ?_
 refine VbF ?_
 refine VbF ?_
 refine WL.nil (hK5 _ _ ?_)
 refine wp_cond_false rfl ?_
 refine wp_skip ?_
 refine hK2 _ _ ?_
 refine wp_seq_k fun K6 hK6 => rgn ?_
 refine VlS (.pointer (some ⟨g, 0, none⟩)) ?_
 refine VlS (.slice ba l.length bc) ?_
 refine VlS (.int .i64 (l.length : Int)) ?_
 refine VlS (.int .i64 (16 + (l.length : Int))) ?_
 clear c5 hl0 hl1 hln hwl
 refine WL.callF (by kernel_rfl) 53 _ _ rfl Tryz.in53 #[ptr g, .int .i64 (16 + (l.length : Int))] (by simp [Act.eval]) ?_
 refine (next_none g _ w (HJ.out.c 2 rfl)).mono ?_
 rintro e w1 ⟨rfl, hb1⟩
 refine ⟨_, rfl, ?_⟩
 have B1 := Keep.mk hb1
 clear hb1
 simp only [Act.put, pqA, pqB, pqC]
 refine WL.new (by kernel_rfl) 97 rfl _ Tryz.newPl ?_
 have HP := Keep.mk (Blk.new w1 97 #[.int .i64 (0), .int .i64 (0)])
 have hbx := below_new w1 (.cells #[.int .i64 (0), .int .i64 (0)] 97)
 have B2 : Keep (Below w.heap.size w (w1.alloc (.cells #[.int .i64 (0), .int .i64 (0)] 97))) := ⟨B1.out.trans (hbx.mono B1.out.size)⟩
 clear hbx
 change WL _ _ _ _ _ (w1.alloc (.cells #[.int .i64 (0), .int .i64 (0)] 97))
 generalize w1.alloc (.cells #[.int .i64 (0), .int .i64 (0)] 97) = w2 at *
 obtain ⟨q, hq⟩ : ∃ p, Keep (p = w1.heap.size) := ⟨_, ⟨rfl⟩⟩
 rw [← hq.out] at HP ⊢
 have hqw : Keep (w.heap.size ≤ q) := ⟨by rw [hq.out]; exact B1.out.size⟩
 simp only [Act.put, pqA, pqB, pqC]
 refine WL.storeR (by kernel_rfl) 97 (.tmp 5) (.tmp 25) rfl q #[.int .i64 (0), .int .i64 (0)] rfl rfl 97 #[.int .i64 (0), .int .i64 (0)] HP.out (by kernel_rfl) rfl (by kernel_rfl) ?_
 have HP3 := Keep.mk (HP.out.setRow #[.int .i64 (0), .int .i64 (0)])
 have B3 : Keep (Below w.heap.size w (w2.setRow q #[.int .i64 (0), .int .i64 (0)])) := ⟨below_setRow B2.out hqw.out _⟩
 clear HP
 generalize w2.setRow q #[.int .i64 (0), .int .i64 (0)] = w3 at *
 have q0 := HP3.out.c 0 (by rfl : (#[.int .i64 (0), .int .i64 (0)] : Array Value)[0]? = some (.int .i64 0))
 have HJ3 := Keep.mk (HJ.out.below B3.out HJ.out.lt)
 have HT3 := Keep.mk (HT.out.below B3.out HZ.out)
 simp only [Act.put]
 refine WL.nil (hK6 _ _ ?_)
 refine wp_seq_k fun K7 hK7 => ?_
 refine wp_seq_k fun K8 hK8 => rgn ?_
 refine VlS (.pointer (some ⟨q, 0, none⟩)) ?_
 refine VlS (.int .i64 0) ?_
 refine VbF ?_
 refine WL.nil (hK8 _ _ ?_)
 refine wp_cond_false rfl ?_
 refine wp_skip ?_
 refine hK7 _ _ ?_
 refine wp_seq_k fun K9 hK9 => ?_
 refine wp_seq_k fun K10 hK10 => ?_
 clear q0
 have hS0 : Keep (w3.drew.cell? ⟨g, 2, none⟩ = some (.int .i64 (-1))) := ⟨HJ3.out.drew.c 2 rfl⟩
 refine wp_region_held_drew (S := fun wx => wx.cell? ⟨g, 2, none⟩ = some (.int .i64 (-1))) (by kernel_rfl) (hS0.out) (fun hHeld => ?_)
 refine TkG (i := 0) (oi := ⟨some 29, Op.move (Operand.tmp 0), 55, _, _, none⟩) (v := .pointer (some ⟨g, 0, none⟩)) rfl hHeld ?_
 refine TkG (i := 1) (oi := ⟨some 30, Op.nilCheck (Operand.tmp 29), 0, _, _, none⟩) (v := .pointer (some ⟨g, 0, none⟩)) rfl hHeld ?_
 refine TkG (i := 2) (oi := ⟨some 31, Op.fieldAddr 92 (Operand.tmp 30) 2, 0, _, _, none⟩) (v := .pointer (some ⟨g, 2, none⟩)) rfl hHeld ?_
 refine TkG (i := 3) (oi := ⟨some 32, Op.load 3 (Operand.tmp 31), 3, _, _, none⟩) (v := .int .i64 (-1)) rfl hHeld ?_
 refine TkG (i := 4) (oi := ⟨some 33, Op.binOp BinOp.neq 3 (Operand.tmp 32) (Operand.const (Value.int IntKind.i64 (-1))) 3, 4, _, _, none⟩) (v := .bool false) rfl hHeld ?_
 refine TkG (i := 5) (oi := ⟨some 34, Op.move (Operand.tmp 33), 4, _, _, none⟩) (v := .bool false) rfl hHeld ?_
 refine tkS (i := 6) (oi := ⟨some 35, Op.fieldAddr 97 (Operand.tmp 5) 0, 0, _, _, some (5, true)⟩) (v := undef) rfl (Or.inr ⟨by rfl, rfl⟩) hHeld ?_
 refine tkS (i := 7) (oi := ⟨some 36, Op.load 3 (Operand.tmp 35), 3, _, _, some (5, true)⟩) (v := undef) rfl (Or.inr ⟨by rfl, rfl⟩) hHeld ?_
 refine tkS (i := 8) (oi := ⟨some 37, Op.move (Operand.tmp 0), 55, _, _, some (5, true)⟩) (v := undef) rfl (Or.inr ⟨by rfl, rfl⟩) hHeld ?_
 refine tkS (i := 9) (oi := ⟨some 38, Op.nilCheck (Operand.tmp 37), 0, _, _, some (5, true)⟩) (v := undef) rfl (Or.inr ⟨by rfl, rfl⟩) hHeld ?_
 refine tkS (i := 10) (oi := ⟨some 39, Op.fieldAddr 92 (Operand.tmp 38) 2, 0, _, _, some (5, true)⟩) (v := undef) rfl (Or.inr ⟨by rfl, rfl⟩) hHeld ?_
 refine tkS (i := 11) (oi := ⟨some 40, Op.load 3 (Operand.tmp 39), 3, _, _, some (5, true)⟩) (v := undef) rfl (Or.inr ⟨by rfl, rfl⟩) hHeld ?_
 refine tkS (i := 12) (oi := ⟨some 41, Op.binOp BinOp.neq 3 (Operand.tmp 36) (Operand.tmp 40) 3, 4, _, _, some (5, true)⟩) (v := undef) rfl (Or.inr ⟨by rfl, rfl⟩) hHeld ?_
 refine TkG (i := 13) (oi := ⟨some 42, Op.pick (Operand.tmp 34) (Operand.tmp 41) (Operand.const (Value.bool false)), 4, _, _, none⟩) (v := .bool false) rfl hHeld ?_
 refine wpAnyH_done (by kernel_rfl) ?_ _
 refine hK10 _ _ ?_
 refine wp_cond_false rfl ?_
 refine wp_skip ?_
 refine hK9 _ _ ?_
 refine wp_seq_k fun K11 hK11 => ?_
 have HJ4 : Keep (Blk w3.drew g 92 (jA d (.slice pa pl.length pc) (-1) sz la false)) := ⟨HJ3.out.drew⟩
 have HP4 : Keep (Blk w3.drew q 97 #[.int .i64 (0), .int .i64 (0)]) := ⟨HP3.out.drew⟩
 have HT4 : Keep (Tab w3.drew) := ⟨HT3.out.below (Below.refl w3.heap.size w3).drew (Nat.lt_of_le_of_lt (Nat.zero_le _) HJ3.out.lt)⟩
 have B4 : Keep (Below w.heap.size w w3.drew) := ⟨B3.out.drew⟩
 clear hS0 HJ3 HP3 HT3
 generalize w3.drew = w4 at *
 have HS4 : Keep (∀ wx, Below w4.heap.size w4 wx → wx.cell? ⟨g, 0, none⟩ = some (ptr d) ∧ wx.cell? ⟨q, 0, none⟩ = some (.int .i64 0)) := ⟨fun wx hx => ⟨(HJ4.out.below hx HJ4.out.lt).c 0 rfl, (HP4.out.below hx HP4.out.lt).c 0 rfl⟩⟩
 have D4 : Keep (Below w4.heap.size w4 w4.drew) := ⟨(Below.refl _ _).drew⟩
 refine wp_region_held_drew (S := fun wx => wx.cell? ⟨g, 0, none⟩ = some (ptr d) ∧ wx.cell? ⟨q, 0, none⟩ = some (.int .i64 0)) (by kernel_rfl) (HS4.out _ D4.out) (fun hHeld => ?_)
 refine TkJ (i := 0) (oi := ⟨some 58, Op.move (Operand.tmp 0), 55, _, _, none⟩) (v := .pointer (some ⟨g, 0, none⟩)) rfl hHeld ?_
 refine TkJ (i := 1) (oi := ⟨some 59, Op.move (Operand.tmp 0), 55, _, _, none⟩) (v := .pointer (some ⟨g, 0, none⟩)) rfl hHeld ?_
 refine TkJ (i := 2) (oi := ⟨some 60, Op.nilCheck (Operand.tmp 59), 0, _, _, none⟩) (v := .pointer (some ⟨g, 0, none⟩)) rfl hHeld ?_
 refine TkJ (i := 3) (oi := ⟨some 61, Op.fieldAddr 92 (Operand.tmp 60) 0, 0, _, _, none⟩) (v := .pointer (some ⟨g, 0, none⟩)) rfl hHeld ?_
 refine TkJ (i := 4) (oi := ⟨some 62, Op.load 29 (Operand.tmp 61), 29, _, _, none⟩) (v := .pointer (some ⟨d, 0, none⟩)) rfl hHeld ?_
 refine TkJ (i := 5) (oi := ⟨some 63, Op.fieldAddr 97 (Operand.tmp 5) 0, 0, _, _, none⟩) (v := .pointer (some ⟨q, 0, none⟩)) rfl hHeld ?_
 refine TkJ (i := 6) (oi := ⟨some 64, Op.load 3 (Operand.tmp 63), 3, _, _, none⟩) (v := .int .i64 0) rfl hHeld ?_
 refine TkJ (i := 8) (oi := ⟨some 66, Op.move (Operand.tmp 1), 40, _, _, none⟩) (v := .slice ba l.length bc) rfl hHeld ?_
 refine wpAnyH_ready (rs := [7]) (by kernel_rfl) (by simp) ?_
 refine AllReadyH.cons (o := ⟨some 65, Op.call { callee := Callee.value (Operand.func 55), args := #[Operand.tmp 64], argTypes := #[3] }, 9, _, _, none⟩) rfl (fun K hK => ?_) AllReadyH.nil
 rw [if_pos (by rfl)]
 refine wp_callF 55 _ _ rfl Tryz.in55 #[.int .i64 ((0 : Nat) : Int)] (by simp [Act.eval]) (fun vz wz => vz = .string (nmS 0) ∧ Below w4.heap.size w4 wz) ?_ ?_
 ·refine (name_any 0 (by omega) w4.drew (HT4.out.below D4.out (Nat.lt_of_le_of_lt (Nat.zero_le _) HJ4.out.lt))).mono ?_
  rintro e wz ⟨rfl, h⟩
  exact ⟨_, rfl, rfl, D4.out.trans (h.mono D4.out.size)⟩
 rintro vz w5 ⟨rfl, h5⟩
 have B5 := Keep.mk h5
 clear h5
 obtain ⟨nn, hnn⟩ : ∃ s, Keep (s = nmS 0) := ⟨_, ⟨rfl⟩⟩
 rw [← hnn.out]
 refine hK _ _ (HS4.out _ B5.out) fun hH5 => ?_
 clear hK
 simp only [Act.put, pqA, pqB, pqC]
 refine wpAnyH_ready (rs := [9]) (by kernel_rfl) (by simp) ?_
 refine AllReadyH.cons (o := ⟨some 67, Op.call { callee := Callee.value (Operand.func 56), args := #[Operand.tmp 66], argTypes := #[40] }, 40, _, _, none⟩) rfl (fun K hK => ?_) AllReadyH.nil
 rw [if_pos (by rfl)]
 refine wp_callF 56 _ _ rfl Tryz.in56 #[.slice ba l.length bc] (by simp [Act.eval]) (fun vz wz => Own wz vz (hl 16 (hdF l) ++ l) ∧ (∀ k, vz.ownBlock = some k → w5.heap.size ≤ k) ∧ Below w5.heap.size w5 wz) ?_ ?_
 ·refine (frame_any _ l w5 (HR.out.below (B4.out.trans (B5.out.mono B4.out.size))) (by have := HL.out; omega)).mono ?_
  rintro e wz ⟨v6, rfl, h1, h2, h3⟩
  exact ⟨_, rfl, h1, h2, h3⟩
 rintro vz w6 ⟨h1, h2, h3⟩
 have HO6 := Keep.mk h1
 have N6 := Keep.mk h2
 have B6 : Keep (Below w4.heap.size w4 w6) := ⟨B5.out.trans (h3.mono B5.out.size)⟩
 have L6 : Keep (w4.heap.size ≤ w5.heap.size ∧ w.heap.size ≤ w4.heap.size) := ⟨B5.out.size, B4.out.size⟩
 clear h1 h2 h3
 obtain ⟨va, vn, vc, e6⟩ := HO6.out.sl
 subst e6
 refine hK _ _ (HS4.out _ B6.out) fun hH6 => ?_
 clear hK
 simp only [Act.put, pqA, pqB, pqC]
 refine wpAnyH_ready (rs := [10]) (by kernel_rfl) (by simp) ?_
 refine AllReadyH.cons (o := ⟨some 68, Op.call { callee := Callee.value (Operand.func 15), args := #[Operand.tmp 62, Operand.tmp 65, Operand.tmp 67], argTypes := #[29, 9, 40] }, 51, _, _, none⟩) rfl (fun K hK => ?_) AllReadyH.nil
 rw [if_pos (by rfl)]
 have BW6 : Keep (Below w.heap.size w w6) := ⟨B4.out.trans (B6.out.mono B4.out.size)⟩
 refine wp_callF 15 _ _ rfl Tryz.in15 #[ptr d, .string nn, .slice va vn vc] (by simp [Act.eval]) (fun vz wz => vz = .int .i64 0 ∧ ∃ vf' cs', DskAt wz p vf' cs' (D.appNew i nn (hl 16 (hdF l) ++ l)) ∧ (Grown w6 wz fun k => k = p) ∧ ∀ k, DskS p vf' cs' k → DskS p vf cs k ∨ w6.heap.size ≤ k) ?_ ?_
 ·refine (append_new d p i nn (.slice va vn vc) vf (hl 16 (hdF l) ++ l) cs D w6 (HDk.out.below BW6.out HDk.out.lt) (HD.out.below BW6.out) HO.out (by rw [hnn.out]; exact nm0_rgt) (by rw [hnn.out]; exact HF.out) HC.out (by have := HU.out; simp [hl_len]; omega) HA.out HFu.out HO6.out.row (fun k hk e => by have := N6.out k hk; have := L6.out; have := HD.out.blk.lt; omega)).mono ?_
  rintro e wz ⟨rfl, vf1, cs1, h1, h2, h3⟩
  exact ⟨_, rfl, rfl, vf1, cs1, h1, h2, h3⟩
 rintro vz w7 ⟨rfl, vf', cs', h1, h2, h3⟩
 have HD7 := Keep.mk h1
 have G7 := Keep.mk h2
 have N7 : Keep (∀ k, DskS p vf' cs' k → DskS p vf cs k ∨ w.heap.size ≤ k) := ⟨fun k hk => (h3 k hk).imp id fun h => by have := BW6.out.size; omega⟩
 clear h1 h2 h3
 have HJ7 : Keep (Blk w7 g 92 (jA d (.slice pa pl.length pc) (-1) sz la false)) := ⟨G7.out.blk (HJ4.out.below B6.out HJ4.out.lt) (fun e => by subst e; have := HJ.out.typ.one HD.out.blk.typ; revert this; decide)⟩
 have HP7 : Keep (Blk w7 q 97 #[.int .i64 (0), .int .i64 (0)]) := ⟨G7.out.blk (HP4.out.below B6.out HP4.out.lt) (fun e => by have := hqw.out; have := HD.out.blk.lt; omega)⟩
 have HO7 : Keep (OwnP w7 (.slice pa pl.length pc) pl) := ⟨(HPl.out.grown (Grown.below (S := fun _ => False) BW6.out) fun _ _ h => h).grown G7.out fun k hk e => HPp.out k hk e⟩
 have GW7 : Keep (Grown w w7 fun k => k = p) := ⟨(Grown.below BW6.out).trans G7.out⟩
 refine hK _ _ (⟨HJ7.out.c 0 rfl, HP7.out.c 0 rfl⟩) fun hH7 => ?_
 clear hK
 simp only [Act.put, pqA, pqB, pqC]
 refine wpAnyH_ready (rs := [11]) (by kernel_rfl) (by simp) ?_
 refine AllReadyH.cons (o := ⟨some 69, Op.call { callee := Callee.value (Operand.func 54), args := #[Operand.tmp 58, Operand.tmp 68], argTypes := #[55, 51] }, 51, _, _, none⟩) rfl (fun K hK => ?_) AllReadyH.nil
 rw [if_pos (by rfl)]
 refine wp_callF 54 _ _ rfl Tryz.in54 #[ptr g, .int .i64 0] (by simp [Act.eval]) (fun vz wz => vz = .int .i64 0 ∧ w7 = wz) ?_ ?_
 ·refine (told_ok g 0 (by omega) w7).mono ?_
  rintro e wz ⟨rfl, h⟩
  exact ⟨_, rfl, rfl, h.symm⟩
 rintro vz wy ⟨rfl, hy⟩
 subst hy
 refine hK _ _ (⟨HJ7.out.c 0 rfl, HP7.out.c 0 rfl⟩) fun hH8 => ?_
 clear hK
 simp only [Act.put, pqA, pqB, pqC]
 refine TkJ (i := 12) (oi := ⟨some 7, Op.assign (Operand.tmp 69), 51, _, _, none⟩) (v := .int .i64 0) rfl hH8 ?_
 refine wpAnyH_done (by kernel_rfl) ?_ _
 refine hK11 _ _ ?_
 refine wp_seq_k fun K12 hK12 => ?_
 refine wp_seq_k fun K13 hK13 => rgn ?_
 refine VlS (.int .i64 0) ?_
 refine VbF ?_
 refine WL.nil (hK13 _ _ ?_)
 refine wp_cond_false rfl ?_
 refine wp_skip ?_
 refine hK12 _ _ ?_
 refine wp_seq_k fun K14 hK14 => ?_
 refine wp_seq_k fun K15 hK15 => rgn ?_
 refine VlS (.int .i64 0) ?_
 refine VbF ?_
 refine WL.nil (hK15 _ _ ?_)
 refine wp_cond_false rfl ?_
 refine wp_skip ?_
 refine hK14 _ _ ?_
 refine wp_seq_k fun K16 hK16 => ?_
 have HJ8 : Keep (Blk w7.drew g 92 (jA d (.slice pa pl.length pc) (-1) sz la false)) := ⟨HJ7.out.drew⟩
 have HP8 : Keep (Blk w7.drew q 97 #[.int .i64 (0), .int .i64 (0)]) := ⟨HP7.out.drew⟩
 have HO8 : Keep (OwnP w7.drew (.slice pa pl.length pc) pl) := ⟨HO7.out⟩
 have HD8 : Keep (DskAt w7.drew p vf' cs' (D.appNew i nn (hl 16 (hdF l) ++ l))) := ⟨HD7.out.grown (Grown.refl w7 (fun _ => False)).drew fun _ _ h => h⟩
 have GW8 : Keep (Grown w w7.drew fun k => k = p) := ⟨GW7.out.drew⟩
 clear HJ7 HP7 HO7 HD7 GW7 HJ4 HP4 HS4 HT4 G7 B6 B5 BW6 HO6 N6 L6 D4
 refine wp_region_held_drew (S := fun wx => Blk wx q 97 #[.int .i64 (0), .int .i64 (0)]) (by kernel_rfl) (HP8.out) (fun hHeld => ?_)
 generalize w7.drew = w8 at *
 refine TkG (i := 0) (oi := ⟨some 75, Op.move (Operand.tmp 0), 55, _, _, none⟩) (v := .pointer (some ⟨g, 0, none⟩)) rfl hHeld ?_
 refine TkG (i := 1) (oi := ⟨some 76, Op.move (Operand.tmp 0), 55, _, _, none⟩) (v := .pointer (some ⟨g, 0, none⟩)) rfl hHeld ?_
 refine TkG (i := 2) (oi := ⟨some 77, Op.nilCheck (Operand.tmp 76), 0, _, _, none⟩) (v := .pointer (some ⟨g, 0, none⟩)) rfl hHeld ?_
 refine TkG (i := 3) (oi := ⟨some 78, Op.fieldAddr 92 (Operand.tmp 77) 1, 0, _, _, none⟩) (v := .pointer (some ⟨g, 1, none⟩)) rfl hHeld ?_
 refine tkS (i := 5) (oi := ⟨some 80, Op.load 97 (Operand.tmp 5), 97, _, _, none⟩) (v := .agg #[.int .i64 (0), .int .i64 (0)]) rfl (yieldsIf_load_mid (by rfl) 97 (.tmp 5) rfl q 0 rfl (#[.int .i64 (0), .int .i64 (0)] : Array Value).toList _ (fun w hS => blk_range hS) Tryz.underlying97 rfl (by kernel_rfl)) hHeld ?_
 refine wpAnyH_ready (rs := [4, 6]) (by kernel_rfl) (by simp) ?_
 refine AllReadyH.cons (o := ⟨some 79, Op.load 90 (Operand.tmp 78), 90, _, _, none⟩) rfl (fun K hK => ?_) (AllReadyH.cons (o := ⟨some 81, Op.buildSlice 90 1 #[(0, Operand.tmp 80)], 90, _, _, none⟩) rfl (fun K hK => ?_) AllReadyH.nil)
 all_goals rw [if_pos (by rfl)]
 ·have cl : w8.cell? ⟨g, 1, none⟩ = some (.slice pa pl.length pc) := HJ8.out.c 1 rfl
  refine wp_val (.slice pa pl.length pc) (by go_simp) ?_
  clear cl
  refine hK _ _ (HP8.out) fun hL8 => ?_
  clear hK
  simp only [Act.put, pqA, pqB, pqC]
  refine wpAnyH_ready (rs := [6]) (by kernel_rfl) (by simp) ?_
  refine AllReadyH.cons (o := ⟨some 81, Op.buildSlice 90 1 #[(0, Operand.tmp 80)], 90, _, _, none⟩) rfl (fun K hK => ?_) AllReadyH.nil
  rw [if_pos (by rfl)]
  refine wp_bs 90 1 _ rfl #[(0, .agg #[.int .i64 (0), .int .i64 (0)])] (by simp [Act.eval]) _ _ (bsP 0 0 w8) ?_
  have hbx := below_new w8 (.cells #[.int .i64 (0), .int .i64 (0)] 97)
  have HN9 := Keep.mk (Blk.new w8 97 #[.int .i64 (0), .int .i64 (0)])
  have HJ9 := Keep.mk (HJ8.out.below hbx HJ8.out.lt)
  have HP9 := Keep.mk (HP8.out.below hbx HP8.out.lt)
  have HO9 := Keep.mk (HO8.out.grown (Grown.below (S := fun _ => False) hbx) fun _ _ h => h)
  have HD9 := Keep.mk (HD8.out.below hbx)
  have GW9 : Keep (Grown w (w8.alloc (.cells #[.int .i64 (0), .int .i64 (0)] 97)) fun k => k = p) := ⟨GW8.out.trans (Grown.below hbx)⟩
  clear hbx
  generalize w8.alloc (.cells #[.int .i64 (0), .int .i64 (0)] 97) = w9 at *
  obtain ⟨g9, hg9⟩ : ∃ p, Keep (p = w8.heap.size) := ⟨_, ⟨rfl⟩⟩
  rw [← hg9.out] at HN9 ⊢
  refine hK _ _ (HP9.out) fun hB9 => ?_
  clear hK
  simp only [Act.put, pqA, pqB, pqC]
  refine wpAnyH_ready (rs := [7]) (by kernel_rfl) (by simp) ?_
  refine AllReadyH.cons (o := ⟨some 82, Op.call { callee := Callee.builtin Builtin.append, args := #[Operand.tmp 79, Operand.tmp 81], argTypes := #[90, 90] }, 90, _, _, none⟩) rfl (fun K hK => ?_) AllReadyH.nil
  rw [if_pos (by rfl)]
  refine wp_appP (.tmp 79) (.tmp 81) rfl (.slice pa pl.length pc) pl g9 1 (0, 0) rfl rfl HO9.out HN9.out (by have := HPn.out; omega) fun v10 w10 h1 h2 h3 => ?_
  have HO10 := Keep.mk h1
  have M10 : Keep (∀ k, v10.ownBlock = some k → (Value.slice pa pl.length pc).ownBlock = some k ∨ w.heap.size ≤ k) := ⟨fun k hk => by rcases h3 with e | ⟨j, e, hj⟩ <;> rw [hk] at e; exact .inl e.symm; right; have := Option.some.inj e; have := GW9.out.size; omega⟩
  have HJ10 : Keep (Blk w10 g 92 (jA d (.slice pa pl.length pc) (-1) sz la false)) := ⟨h2.blk HJ9.out fun e => HPg.out g e rfl⟩
  have HP10 : Keep (Blk w10 q 97 #[.int .i64 (0), .int .i64 (0)]) := ⟨h2.blk HP9.out fun e => by have := HPw.out q e; have := hqw.out; omega⟩
  have HD10 : Keep (DskAt w10 p vf' cs' (D.appNew i nn (hl 16 (hdF l) ++ l))) := ⟨HD9.out.grown h2 fun k hk e => by have ht := HO9.out.typ e; rcases hk with h | h | h <;> (have := h.one ht; revert this; decide)⟩
  have GW10 : Keep (Grown w w10 fun k => k = p ∨ k = g ∨ (Value.slice pa pl.length pc).ownBlock = some k) := ⟨(GW9.out.mono fun k _ e => .inl e).next h2 fun k _ e => .inr (.inr e)⟩
  clear h1 h2 h3
  obtain ⟨a10, c10, e10⟩ := HO10.out.sl
  subst e10
  obtain ⟨n10, hn10⟩ : ∃ q, Keep (q = (pl ++ [(0, 0)]).length) := ⟨_, ⟨rfl⟩⟩
  rw [← hn10.out] at HO10 M10 ⊢
  refine hK _ _ (HP10.out) fun hA10 => ?_
  clear hK
  simp only [Act.put, pqA, pqB, pqC]
  refine TkG (i := 8) (oi := ⟨some 83, Op.nilCheck (Operand.tmp 75), 0, _, _, none⟩) (v := .pointer (some ⟨g, 0, none⟩)) rfl hA10 ?_
  refine TkG (i := 9) (oi := ⟨some 84, Op.fieldAddr 92 (Operand.tmp 83) 1, 0, _, _, none⟩) (v := .pointer (some ⟨g, 1, none⟩)) rfl hA10 ?_
  refine wpAnyH_ready (rs := [10]) (by kernel_rfl) (by simp) ?_
  refine AllReadyH.cons (o := ⟨none, Op.store 90 (Operand.tmp 84) (Operand.tmp 82), 0, _, _, none⟩) rfl (fun K hK => ?_) AllReadyH.nil
  rw [if_pos (by rfl)]
  have f_o := HJ10.out.frozen 1
  have cl : w10.cell? ⟨g, 1, none⟩ = some (.slice pa pl.length pc) := HJ10.out.c 1 rfl
  refine wp_cellS (w10.setCell ⟨g, 1, none⟩ (.slice a10 n10 c10)) (by go_simp) ?_
  clear f_o cl
  have HJ11 : Keep (Blk (w10.setCell ⟨g, 1, none⟩ (.slice a10 n10 c10)) g 92 (jA d (.slice a10 n10 c10) (-1) sz la false)) := ⟨HJ10.out.set 1 (.slice a10 n10 c10)⟩
  have hgs : Grown w10 (w10.setCell ⟨g, 1, none⟩ (.slice a10 n10 c10)) fun k => k = g := Grown.setCell w10 g 1 _ fun _ => rfl
  have HP11 : Keep (Blk (w10.setCell ⟨g, 1, none⟩ (.slice a10 n10 c10)) q 97 #[.int .i64 (0), .int .i64 (0)]) := ⟨hgs.blk HP10.out fun e => by have := hqw.out; have := HJ.out.lt; omega⟩
  have HO11 : Keep (OwnP (w10.setCell ⟨g, 1, none⟩ (.slice a10 n10 c10)) (.slice a10 n10 c10) (pl ++ [(0, 0)])) := ⟨HO10.out.grown hgs fun k hk e => by subst e; rcases M10.out _ hk with h | h; exact HPg.out _ h rfl; have := HJ.out.lt; omega⟩
  have HD11 : Keep (DskAt (w10.setCell ⟨g, 1, none⟩ (.slice a10 n10 c10)) p vf' cs' (D.appNew i nn (hl 16 (hdF l) ++ l))) := ⟨HD10.out.grown hgs fun k hk e => by subst e; have hj := HJ10.out.typ; rcases hk with h | h | h <;> (have := h.one hj; revert this; decide)⟩
  have GW11 : Keep (Grown w (w10.setCell ⟨g, 1, none⟩ (.slice a10 n10 c10)) fun k => k = p ∨ k = g ∨ (Value.slice pa pl.length pc).ownBlock = some k) := ⟨GW10.out.next hgs fun k _ e => .inr (.inl e)⟩
  clear hgs HJ10 HP10 HO10 HD10 GW10
  generalize w10.setCell ⟨g, 1, none⟩ (.slice a10 n10 c10) = w11 at *
  refine hK _ _ (HP11.out) fun hS11 => ?_
  clear hK
  simp only [Act.put, pqA, pqB, pqC]
  refine wpAnyH_done (by kernel_rfl) ?_ _
  refine hK16 _ _ ?_
  refine wp_seq_k fun K17 hK17 => ?_
  have HP12 : Keep (Blk w11.drew q 97 #[.int .i64 (0), .int .i64 (0)]) := ⟨HP11.out.drew⟩
  have HJ12 : Keep (Blk w11.drew g 92 (jA d (.slice a10 n10 c10) (-1) sz la false)) := ⟨HJ11.out.drew⟩
  have hwl : IntKind.i64.wrap (16 + (l.length : Int)) = 16 + (l.length : Int) := by rw [IntKind.wrap_i64]; have := HL.out; omega
  have hw16 : IntKind.i64.wrap 16 = 16 := by rw [IntKind.wrap_i64]; rfl
  refine wp_region_held_drew (S := fun wx => Blk wx q 97 #[.int .i64 (0), .int .i64 (0)]) (by kernel_rfl) (HP12.out) (fun hHeld => ?_)
  refine tkS (i := 0) (oi := ⟨some 85, Op.move (Operand.tmp 0), 55, _, _, none⟩) (v := .pointer (some ⟨g, 0, none⟩)) rfl (Or.inl ⟨by rfl, fun w hS => by have q0 := hS.c 0 (by rfl : (#[.int .i64 (0), .int .i64 (0)] : Array Value)[0]? = some (.int .i64 0)); have q1 := hS.c 1 (by rfl : (#[.int .i64 (0), .int .i64 (0)] : Array Value)[1]? = some (.int .i64 0)); go_simp⟩) hHeld ?_
  refine tkS (i := 1) (oi := ⟨some 86, Op.move (Operand.tmp 0), 55, _, _, none⟩) (v := .pointer (some ⟨g, 0, none⟩)) rfl (Or.inl ⟨by rfl, fun w hS => by have q0 := hS.c 0 (by rfl : (#[.int .i64 (0), .int .i64 (0)] : Array Value)[0]? = some (.int .i64 0)); have q1 := hS.c 1 (by rfl : (#[.int .i64 (0), .int .i64 (0)] : Array Value)[1]? = some (.int .i64 0)); go_simp⟩) hHeld ?_
  refine tkS (i := 2) (oi := ⟨some 87, Op.fieldAddr 97 (Operand.tmp 5) 0, 0, _, _, none⟩) (v := .pointer (some ⟨q, 0, none⟩)) rfl (Or.inl ⟨by rfl, fun w hS => by have q0 := hS.c 0 (by rfl : (#[.int .i64 (0), .int .i64 (0)] : Array Value)[0]? = some (.int .i64 0)); have q1 := hS.c 1 (by rfl : (#[.int .i64 (0), .int .i64 (0)] : Array Value)[1]? = some (.int .i64 0)); go_simp⟩) hHeld ?_
  refine tkS (i := 3) (oi := ⟨some 88, Op.load 3 (Operand.tmp 87), 3, _, _, none⟩) (v := .int .i64 0) rfl (Or.inl ⟨by rfl, fun w hS => by have q0 := hS.c 0 (by rfl : (#[.int .i64 (0), .int .i64 (0)] : Array Value)[0]? = some (.int .i64 0)); have q1 := hS.c 1 (by rfl : (#[.int .i64 (0), .int .i64 (0)] : Array Value)[1]? = some (.int .i64 0)); go_simp⟩) hHeld ?_
  refine tkS (i := 4) (oi := ⟨some 89, Op.fieldAddr 97 (Operand.tmp 5) 1, 0, _, _, none⟩) (v := .pointer (some ⟨q, 1, none⟩)) rfl (Or.inl ⟨by rfl, fun w hS => by have q0 := hS.c 0 (by rfl : (#[.int .i64 (0), .int .i64 (0)] : Array Value)[0]? = some (.int .i64 0)); have q1 := hS.c 1 (by rfl : (#[.int .i64 (0), .int .i64 (0)] : Array Value)[1]? = some (.int .i64 0)); go_simp⟩) hHeld ?_
  refine tkS (i := 5) (oi := ⟨some 90, Op.load 3 (Operand.tmp 89), 3, _, _, none⟩) (v := .int .i64 0) rfl (Or.inl ⟨by rfl, fun w hS => by have q0 := hS.c 0 (by rfl : (#[.int .i64 (0), .int .i64 (0)] : Array Value)[0]? = some (.int .i64 0)); have q1 := hS.c 1 (by rfl : (#[.int .i64 (0), .int .i64 (0)] : Array Value)[1]? = some (.int .i64 0)); go_simp⟩) hHeld ?_
  refine tkS (i := 6) (oi := ⟨some 91, Op.binOp BinOp.add 3 (Operand.tmp 90) (Operand.const (Value.int IntKind.i64 16)) 3, 3, _, _, none⟩) (v := .int .i64 16) rfl (Or.inl ⟨by rfl, fun w hS => by have q0 := hS.c 0 (by rfl : (#[.int .i64 (0), .int .i64 (0)] : Array Value)[0]? = some (.int .i64 0)); have q1 := hS.c 1 (by rfl : (#[.int .i64 (0), .int .i64 (0)] : Array Value)[1]? = some (.int .i64 0)); go_simp⟩) hHeld ?_
  refine tkS (i := 7) (oi := ⟨some 92, Op.move (Operand.tmp 1), 40, _, _, none⟩) (v := .slice ba l.length bc) rfl (Or.inl ⟨by rfl, fun w hS => by have q0 := hS.c 0 (by rfl : (#[.int .i64 (0), .int .i64 (0)] : Array Value)[0]? = some (.int .i64 0)); have q1 := hS.c 1 (by rfl : (#[.int .i64 (0), .int .i64 (0)] : Array Value)[1]? = some (.int .i64 0)); go_simp⟩) hHeld ?_
  refine tkS (i := 8) (oi := ⟨some 93, Op.call { callee := Callee.builtin Builtin.len, args := #[Operand.tmp 92], argTypes := #[40] }, 3, _, _, none⟩) (v := .int .i64 (l.length : Int)) rfl (Or.inl ⟨by rfl, fun w hS => by have q0 := hS.c 0 (by rfl : (#[.int .i64 (0), .int .i64 (0)] : Array Value)[0]? = some (.int .i64 0)); have q1 := hS.c 1 (by rfl : (#[.int .i64 (0), .int .i64 (0)] : Array Value)[1]? = some (.int .i64 0)); go_simp⟩) hHeld ?_
  refine tkS (i := 9) (oi := ⟨some 94, Op.binOp BinOp.add 3 (Operand.tmp 91) (Operand.tmp 93) 3, 3, _, _, none⟩) (v := .int .i64 (16 + (l.length : Int))) rfl (Or.inl ⟨by rfl, fun w hS => by have q0 := hS.c 0 (by rfl : (#[.int .i64 (0), .int .i64 (0)] : Array Value)[0]? = some (.int .i64 0)); have q1 := hS.c 1 (by rfl : (#[.int .i64 (0), .int .i64 (0)] : Array Value)[1]? = some (.int .i64 0)); go_simp⟩) hHeld ?_
  refine tkS (i := 10) (oi := ⟨some 95, Op.nilCheck (Operand.tmp 85), 0, _, _, none⟩) (v := .pointer (some ⟨g, 0, none⟩)) rfl (Or.inl ⟨by rfl, fun w hS => by have q0 := hS.c 0 (by rfl : (#[.int .i64 (0), .int .i64 (0)] : Array Value)[0]? = some (.int .i64 0)); have q1 := hS.c 1 (by rfl : (#[.int .i64 (0), .int .i64 (0)] : Array Value)[1]? = some (.int .i64 0)); go_simp⟩) hHeld ?_
  refine tkS (i := 11) (oi := ⟨some 96, Op.fieldAddr 92 (Operand.tmp 95) 2, 0, _, _, none⟩) (v := .pointer (some ⟨g, 2, none⟩)) rfl (Or.inl ⟨by rfl, fun w hS => by have q0 := hS.c 0 (by rfl : (#[.int .i64 (0), .int .i64 (0)] : Array Value)[0]? = some (.int .i64 0)); have q1 := hS.c 1 (by rfl : (#[.int .i64 (0), .int .i64 (0)] : Array Value)[1]? = some (.int .i64 0)); go_simp⟩) hHeld ?_
  refine wpAnyH_ready (rs := [12]) (by kernel_rfl) (by simp) ?_
  refine AllReadyH.cons (o := ⟨none, Op.store 3 (Operand.tmp 96) (Operand.tmp 88), 0, _, _, none⟩) rfl (fun K hK => ?_) AllReadyH.nil
  rw [if_pos (by rfl)]
  have f_o := HJ12.out.frozen 2
  have cl : w11.drew.cell? ⟨g, 2, none⟩ = some (.int .i64 (-1)) := HJ12.out.c 2 rfl
  refine wp_cellS (w11.drew.setCell ⟨g, 2, none⟩ (.int .i64 0)) (by go_simp) ?_
  clear f_o cl
  have HJ13 : Keep (Blk (w11.drew.setCell ⟨g, 2, none⟩ (.int .i64 0)) g 92 (jA d (.slice a10 n10 c10) 0 sz la false)) := ⟨HJ12.out.set 2 _⟩
  have HP13 : Keep (Blk (w11.drew.setCell ⟨g, 2, none⟩ (.int .i64 0)) q 97 #[.int .i64 (0), .int .i64 (0)]) := ⟨HP12.out.set_ne (fun e => by have := hqw.out; have := HJ.out.lt; omega) _⟩
  have G13 : Keep (Grown w11 (w11.drew.setCell ⟨g, 2, none⟩ (.int .i64 0)) fun k => k = g) := ⟨(Grown.refl w11 (fun k => k = g)).drew.trans (Grown.setCell w11.drew g 2 _ fun _ => rfl)⟩
  generalize w11.drew.setCell ⟨g, 2, none⟩ (.int .i64 0) = w13 at *
  refine hK _ _ HP13.out fun hA12 => ?_
  clear hK
  simp only [Act.put, pqA, pqB, pqC]
  refine tkS (i := 13) (oi := ⟨some 97, Op.nilCheck (Operand.tmp 86), 0, _, _, none⟩) (v := .pointer (some ⟨g, 0, none⟩)) rfl (Or.inl ⟨by rfl, fun w hS => by have q0 := hS.c 0 (by rfl : (#[.int .i64 (0), .int .i64 (0)] : Array Value)[0]? = some (.int .i64 0)); have q1 := hS.c 1 (by rfl : (#[.int .i64 (0), .int .i64 (0)] : Array Value)[1]? = some (.int .i64 0)); go_simp⟩) hA12 ?_
  refine tkS (i := 14) (oi := ⟨some 98, Op.fieldAddr 92 (Operand.tmp 97) 3, 0, _, _, none⟩) (v := .pointer (some ⟨g, 3, none⟩)) rfl (Or.inl ⟨by rfl, fun w hS => by have q0 := hS.c 0 (by rfl : (#[.int .i64 (0), .int .i64 (0)] : Array Value)[0]? = some (.int .i64 0)); have q1 := hS.c 1 (by rfl : (#[.int .i64 (0), .int .i64 (0)] : Array Value)[1]? = some (.int .i64 0)); go_simp⟩) hA12 ?_
  refine wpAnyH_ready (rs := [15]) (by kernel_rfl) (by simp) ?_
  refine AllReadyH.cons (o := ⟨none, Op.store 3 (Operand.tmp 98) (Operand.tmp 94), 0, _, _, none⟩) rfl (fun K hK => ?_) AllReadyH.nil
  rw [if_pos (by rfl)]
  have f_o := HJ13.out.frozen 3
  have cl : w13.cell? ⟨g, 3, none⟩ = some (.int .i64 sz) := HJ13.out.c 3 rfl
  refine wp_cellS (w13.setCell ⟨g, 3, none⟩ (.int .i64 (16 + (l.length : Int)))) (by go_simp) ?_
  clear f_o cl
  have HJ14 : Keep (Blk (w13.setCell ⟨g, 3, none⟩ (.int .i64 (16 + (l.length : Int)))) g 92 (jA d (.slice a10 n10 c10) 0 (16 + (l.length : Int)) la false)) := ⟨HJ13.out.set 3 _⟩
  have HP14 : Keep (Blk (w13.setCell ⟨g, 3, none⟩ (.int .i64 (16 + (l.length : Int)))) q 97 #[.int .i64 (0), .int .i64 (0)]) := ⟨HP13.out.set_ne (fun e => by have := hqw.out; have := HJ.out.lt; omega) _⟩
  have G14 : Keep (Grown w11 (w13.setCell ⟨g, 3, none⟩ (.int .i64 (16 + (l.length : Int)))) fun k => k = g) := ⟨G13.out.trans (Grown.setCell w13 g 3 _ fun _ => rfl)⟩
  have HJ11t : Keep (Typ w11 g 92) := ⟨HJ11.out.typ⟩
  clear HJ12 HP12 HJ13 HP13 HJ11 hwl hw16
  generalize w13.setCell ⟨g, 3, none⟩ (.int .i64 (16 + (l.length : Int))) = w14 at *
  refine hK _ _ HP14.out fun hA13 => ?_
  clear hK
  have f_o := HJ14.out.frozen 4
  have cl : w14.cell? ⟨g, 4, none⟩ = some (.bool la) := HJ14.out.c 4 rfl
  simp only [Act.put, pqA, pqB, pqC]
  refine wpAnyH_done (by kernel_rfl) ?_ _
  refine hK17 _ _ ?_
  refine wp_seq_k fun K18 hK18 => rgn ?_
  refine VlS (.pointer (some ⟨g, 0, none⟩)) ?_
  refine VlS (.pointer (some ⟨g, 0, none⟩)) ?_
  refine VlS (.pointer (some ⟨g, 4, none⟩)) ?_
  refine WL.cell (by kernel_rfl) (w14.setCell ⟨g, 4, none⟩ (.bool true)) (by go_simp) ?_
  clear f_o cl
  have HJ15 : Keep (Blk (w14.setCell ⟨g, 4, none⟩ (.bool true)) g 92 (jA d (.slice a10 n10 c10) 0 (16 + (l.length : Int)) true false)) := ⟨HJ14.out.set 4 _⟩
  have G15 : Keep (Grown w11 (w14.setCell ⟨g, 4, none⟩ (.bool true)) fun k => k = g) := ⟨G14.out.trans (Grown.setCell w14 g 4 _ fun _ => rfl)⟩
  clear HJ14 G14
  generalize w14.setCell ⟨g, 4, none⟩ (.bool true) = w15 at *
  simp only [Act.put]
  refine WL.nil (hK18 _ _ ?_)
  refine wp_seq_k fun K19 hK19 => rgn ?_
  refine VlS (.int .i64 0) ?_
  refine WL.nil (hK19 _ _ ?_)
  refine wp_ret ?_
  go_ret
  refine ⟨rfl, .slice a10 n10 c10, vf', cs', HJ15.out, HO11.out.grown G15.out fun k hk e => ?_, ?_, GW11.out.next G15.out fun k _ e => .inr (.inl e), N7.out, M10.out⟩
  ·subst e; rcases M10.out _ hk with h | h; exact HPg.out _ h rfl; have := HJ.out.lt; omega
  ·rw [hnn.out] at HD11; exact HD11.out.grown G15.out fun k hk e => by subst e; have hj := HJ11t.out; rcases hk with h | h | h <;> (have := h.one hj; revert this; decide)
 ·refine wp_bs 90 1 _ rfl #[(0, .agg #[.int .i64 (0), .int .i64 (0)])] (by simp [Act.eval]) _ _ (bsP 0 0 w8) ?_
  have hbx := below_new w8 (.cells #[.int .i64 (0), .int .i64 (0)] 97)
  have HN9 := Keep.mk (Blk.new w8 97 #[.int .i64 (0), .int .i64 (0)])
  have HJ9 := Keep.mk (HJ8.out.below hbx HJ8.out.lt)
  have HP9 := Keep.mk (HP8.out.below hbx HP8.out.lt)
  have HO9 := Keep.mk (HO8.out.grown (Grown.below (S := fun _ => False) hbx) fun _ _ h => h)
  have HD9 := Keep.mk (HD8.out.below hbx)
  have GW9 : Keep (Grown w (w8.alloc (.cells #[.int .i64 (0), .int .i64 (0)] 97)) fun k => k = p) := ⟨GW8.out.trans (Grown.below hbx)⟩
  clear hbx
  generalize w8.alloc (.cells #[.int .i64 (0), .int .i64 (0)] 97) = w9 at *
  obtain ⟨g9, hg9⟩ : ∃ p, Keep (p = w8.heap.size) := ⟨_, ⟨rfl⟩⟩
  rw [← hg9.out] at HN9 ⊢
  refine hK _ _ (HP9.out) fun hB9 => ?_
  clear hK
  simp only [Act.put, pqA, pqB, pqC]
  refine wpAnyH_ready (rs := [4]) (by kernel_rfl) (by simp) ?_
  refine AllReadyH.cons (o := ⟨some 79, Op.load 90 (Operand.tmp 78), 90, _, _, none⟩) rfl (fun K hK => ?_) AllReadyH.nil
  rw [if_pos (by rfl)]
  have cl : w9.cell? ⟨g, 1, none⟩ = some (.slice pa pl.length pc) := HJ9.out.c 1 rfl
  refine wp_val (.slice pa pl.length pc) (by go_simp) ?_
  clear cl
  refine hK _ _ (HP9.out) fun hL9 => ?_
  clear hK
  simp only [Act.put, pqA, pqB, pqC]
  refine wpAnyH_ready (rs := [7]) (by kernel_rfl) (by simp) ?_
  refine AllReadyH.cons (o := ⟨some 82, Op.call { callee := Callee.builtin Builtin.append, args := #[Operand.tmp 79, Operand.tmp 81], argTypes := #[90, 90] }, 90, _, _, none⟩) rfl (fun K hK => ?_) AllReadyH.nil
  rw [if_pos (by rfl)]
  refine wp_appP (.tmp 79) (.tmp 81) rfl (.slice pa pl.length pc) pl g9 1 (0, 0) rfl rfl HO9.out HN9.out (by have := HPn.out; omega) fun v10 w10 h1 h2 h3 => ?_
  have HO10 := Keep.mk h1
  have M10 : Keep (∀ k, v10.ownBlock = some k → (Value.slice pa pl.length pc).ownBlock = some k ∨ w.heap.size ≤ k) := ⟨fun k hk => by rcases h3 with e | ⟨j, e, hj⟩ <;> rw [hk] at e; exact .inl e.symm; right; have := Option.some.inj e; have := GW9.out.size; omega⟩
  have HJ10 : Keep (Blk w10 g 92 (jA d (.slice pa pl.length pc) (-1) sz la false)) := ⟨h2.blk HJ9.out fun e => HPg.out g e rfl⟩
  have HP10 : Keep (Blk w10 q 97 #[.int .i64 (0), .int .i64 (0)]) := ⟨h2.blk HP9.out fun e => by have := HPw.out q e; have := hqw.out; omega⟩
  have HD10 : Keep (DskAt w10 p vf' cs' (D.appNew i nn (hl 16 (hdF l) ++ l))) := ⟨HD9.out.grown h2 fun k hk e => by have ht := HO9.out.typ e; rcases hk with h | h | h <;> (have := h.one ht; revert this; decide)⟩
  have GW10 : Keep (Grown w w10 fun k => k = p ∨ k = g ∨ (Value.slice pa pl.length pc).ownBlock = some k) := ⟨(GW9.out.mono fun k _ e => .inl e).next h2 fun k _ e => .inr (.inr e)⟩
  clear h1 h2 h3
  obtain ⟨a10, c10, e10⟩ := HO10.out.sl
  subst e10
  obtain ⟨n10, hn10⟩ : ∃ q, Keep (q = (pl ++ [(0, 0)]).length) := ⟨_, ⟨rfl⟩⟩
  rw [← hn10.out] at HO10 M10 ⊢
  refine hK _ _ (HP10.out) fun hA10 => ?_
  clear hK
  simp only [Act.put, pqA, pqB, pqC]
  refine TkG (i := 8) (oi := ⟨some 83, Op.nilCheck (Operand.tmp 75), 0, _, _, none⟩) (v := .pointer (some ⟨g, 0, none⟩)) rfl hA10 ?_
  refine TkG (i := 9) (oi := ⟨some 84, Op.fieldAddr 92 (Operand.tmp 83) 1, 0, _, _, none⟩) (v := .pointer (some ⟨g, 1, none⟩)) rfl hA10 ?_
  refine wpAnyH_ready (rs := [10]) (by kernel_rfl) (by simp) ?_
  refine AllReadyH.cons (o := ⟨none, Op.store 90 (Operand.tmp 84) (Operand.tmp 82), 0, _, _, none⟩) rfl (fun K hK => ?_) AllReadyH.nil
  rw [if_pos (by rfl)]
  have f_o := HJ10.out.frozen 1
  have cl : w10.cell? ⟨g, 1, none⟩ = some (.slice pa pl.length pc) := HJ10.out.c 1 rfl
  refine wp_cellS (w10.setCell ⟨g, 1, none⟩ (.slice a10 n10 c10)) (by go_simp) ?_
  clear f_o cl
  have HJ11 : Keep (Blk (w10.setCell ⟨g, 1, none⟩ (.slice a10 n10 c10)) g 92 (jA d (.slice a10 n10 c10) (-1) sz la false)) := ⟨HJ10.out.set 1 (.slice a10 n10 c10)⟩
  have hgs : Grown w10 (w10.setCell ⟨g, 1, none⟩ (.slice a10 n10 c10)) fun k => k = g := Grown.setCell w10 g 1 _ fun _ => rfl
  have HP11 : Keep (Blk (w10.setCell ⟨g, 1, none⟩ (.slice a10 n10 c10)) q 97 #[.int .i64 (0), .int .i64 (0)]) := ⟨hgs.blk HP10.out fun e => by have := hqw.out; have := HJ.out.lt; omega⟩
  have HO11 : Keep (OwnP (w10.setCell ⟨g, 1, none⟩ (.slice a10 n10 c10)) (.slice a10 n10 c10) (pl ++ [(0, 0)])) := ⟨HO10.out.grown hgs fun k hk e => by subst e; rcases M10.out _ hk with h | h; exact HPg.out _ h rfl; have := HJ.out.lt; omega⟩
  have HD11 : Keep (DskAt (w10.setCell ⟨g, 1, none⟩ (.slice a10 n10 c10)) p vf' cs' (D.appNew i nn (hl 16 (hdF l) ++ l))) := ⟨HD10.out.grown hgs fun k hk e => by subst e; have hj := HJ10.out.typ; rcases hk with h | h | h <;> (have := h.one hj; revert this; decide)⟩
  have GW11 : Keep (Grown w (w10.setCell ⟨g, 1, none⟩ (.slice a10 n10 c10)) fun k => k = p ∨ k = g ∨ (Value.slice pa pl.length pc).ownBlock = some k) := ⟨GW10.out.next hgs fun k _ e => .inr (.inl e)⟩
  clear hgs HJ10 HP10 HO10 HD10 GW10
  generalize w10.setCell ⟨g, 1, none⟩ (.slice a10 n10 c10) = w11 at *
  refine hK _ _ (HP11.out) fun hS11 => ?_
  clear hK
  simp only [Act.put, pqA, pqB, pqC]
  refine wpAnyH_done (by kernel_rfl) ?_ _
  refine hK16 _ _ ?_
  refine wp_seq_k fun K20 hK20 => ?_
  have HP12 : Keep (Blk w11.drew q 97 #[.int .i64 (0), .int .i64 (0)]) := ⟨HP11.out.drew⟩
  have HJ12 : Keep (Blk w11.drew g 92 (jA d (.slice a10 n10 c10) (-1) sz la false)) := ⟨HJ11.out.drew⟩
  have hwl : IntKind.i64.wrap (16 + (l.length : Int)) = 16 + (l.length : Int) := by rw [IntKind.wrap_i64]; have := HL.out; omega
  have hw16 : IntKind.i64.wrap 16 = 16 := by rw [IntKind.wrap_i64]; rfl
  refine wp_region_held_drew (S := fun wx => Blk wx q 97 #[.int .i64 (0), .int .i64 (0)]) (by kernel_rfl) (HP12.out) (fun hHeld => ?_)
  refine tkS (i := 0) (oi := ⟨some 85, Op.move (Operand.tmp 0), 55, _, _, none⟩) (v := .pointer (some ⟨g, 0, none⟩)) rfl (Or.inl ⟨by rfl, fun w hS => by have q0 := hS.c 0 (by rfl : (#[.int .i64 (0), .int .i64 (0)] : Array Value)[0]? = some (.int .i64 0)); have q1 := hS.c 1 (by rfl : (#[.int .i64 (0), .int .i64 (0)] : Array Value)[1]? = some (.int .i64 0)); go_simp⟩) hHeld ?_
  refine tkS (i := 1) (oi := ⟨some 86, Op.move (Operand.tmp 0), 55, _, _, none⟩) (v := .pointer (some ⟨g, 0, none⟩)) rfl (Or.inl ⟨by rfl, fun w hS => by have q0 := hS.c 0 (by rfl : (#[.int .i64 (0), .int .i64 (0)] : Array Value)[0]? = some (.int .i64 0)); have q1 := hS.c 1 (by rfl : (#[.int .i64 (0), .int .i64 (0)] : Array Value)[1]? = some (.int .i64 0)); go_simp⟩) hHeld ?_
  refine tkS (i := 2) (oi := ⟨some 87, Op.fieldAddr 97 (Operand.tmp 5) 0, 0, _, _, none⟩) (v := .pointer (some ⟨q, 0, none⟩)) rfl (Or.inl ⟨by rfl, fun w hS => by have q0 := hS.c 0 (by rfl : (#[.int .i64 (0), .int .i64 (0)] : Array Value)[0]? = some (.int .i64 0)); have q1 := hS.c 1 (by rfl : (#[.int .i64 (0), .int .i64 (0)] : Array Value)[1]? = some (.int .i64 0)); go_simp⟩) hHeld ?_
  refine tkS (i := 3) (oi := ⟨some 88, Op.load 3 (Operand.tmp 87), 3, _, _, none⟩) (v := .int .i64 0) rfl (Or.inl ⟨by rfl, fun w hS => by have q0 := hS.c 0 (by rfl : (#[.int .i64 (0), .int .i64 (0)] : Array Value)[0]? = some (.int .i64 0)); have q1 := hS.c 1 (by rfl : (#[.int .i64 (0), .int .i64 (0)] : Array Value)[1]? = some (.int .i64 0)); go_simp⟩) hHeld ?_
  refine tkS (i := 4) (oi := ⟨some 89, Op.fieldAddr 97 (Operand.tmp 5) 1, 0, _, _, none⟩) (v := .pointer (some ⟨q, 1, none⟩)) rfl (Or.inl ⟨by rfl, fun w hS => by have q0 := hS.c 0 (by rfl : (#[.int .i64 (0), .int .i64 (0)] : Array Value)[0]? = some (.int .i64 0)); have q1 := hS.c 1 (by rfl : (#[.int .i64 (0), .int .i64 (0)] : Array Value)[1]? = some (.int .i64 0)); go_simp⟩) hHeld ?_
  refine tkS (i := 5) (oi := ⟨some 90, Op.load 3 (Operand.tmp 89), 3, _, _, none⟩) (v := .int .i64 0) rfl (Or.inl ⟨by rfl, fun w hS => by have q0 := hS.c 0 (by rfl : (#[.int .i64 (0), .int .i64 (0)] : Array Value)[0]? = some (.int .i64 0)); have q1 := hS.c 1 (by rfl : (#[.int .i64 (0), .int .i64 (0)] : Array Value)[1]? = some (.int .i64 0)); go_simp⟩) hHeld ?_
  refine tkS (i := 6) (oi := ⟨some 91, Op.binOp BinOp.add 3 (Operand.tmp 90) (Operand.const (Value.int IntKind.i64 16)) 3, 3, _, _, none⟩) (v := .int .i64 16) rfl (Or.inl ⟨by rfl, fun w hS => by have q0 := hS.c 0 (by rfl : (#[.int .i64 (0), .int .i64 (0)] : Array Value)[0]? = some (.int .i64 0)); have q1 := hS.c 1 (by rfl : (#[.int .i64 (0), .int .i64 (0)] : Array Value)[1]? = some (.int .i64 0)); go_simp⟩) hHeld ?_
  refine tkS (i := 7) (oi := ⟨some 92, Op.move (Operand.tmp 1), 40, _, _, none⟩) (v := .slice ba l.length bc) rfl (Or.inl ⟨by rfl, fun w hS => by have q0 := hS.c 0 (by rfl : (#[.int .i64 (0), .int .i64 (0)] : Array Value)[0]? = some (.int .i64 0)); have q1 := hS.c 1 (by rfl : (#[.int .i64 (0), .int .i64 (0)] : Array Value)[1]? = some (.int .i64 0)); go_simp⟩) hHeld ?_
  refine tkS (i := 8) (oi := ⟨some 93, Op.call { callee := Callee.builtin Builtin.len, args := #[Operand.tmp 92], argTypes := #[40] }, 3, _, _, none⟩) (v := .int .i64 (l.length : Int)) rfl (Or.inl ⟨by rfl, fun w hS => by have q0 := hS.c 0 (by rfl : (#[.int .i64 (0), .int .i64 (0)] : Array Value)[0]? = some (.int .i64 0)); have q1 := hS.c 1 (by rfl : (#[.int .i64 (0), .int .i64 (0)] : Array Value)[1]? = some (.int .i64 0)); go_simp⟩) hHeld ?_
  refine tkS (i := 9) (oi := ⟨some 94, Op.binOp BinOp.add 3 (Operand.tmp 91) (Operand.tmp 93) 3, 3, _, _, none⟩) (v := .int .i64 (16 + (l.length : Int))) rfl (Or.inl ⟨by rfl, fun w hS => by have q0 := hS.c 0 (by rfl : (#[.int .i64 (0), .int .i64 (0)] : Array Value)[0]? = some (.int .i64 0)); have q1 := hS.c 1 (by rfl : (#[.int .i64 (0), .int .i64 (0)] : Array Value)[1]? = some (.int .i64 0)); go_simp⟩) hHeld ?_
  refine tkS (i := 10) (oi := ⟨some 95, Op.nilCheck (Operand.tmp 85), 0, _, _, none⟩) (v := .pointer (some ⟨g, 0, none⟩)) rfl (Or.inl ⟨by rfl, fun w hS => by have q0 := hS.c 0 (by rfl : (#[.int .i64 (0), .int .i64 (0)] : Array Value)[0]? = some (.int .i64 0)); have q1 := hS.c 1 (by rfl : (#[.int .i64 (0), .int .i64 (0)] : Array Value)[1]? = some (.int .i64 0)); go_simp⟩) hHeld ?_
  refine tkS (i := 11) (oi := ⟨some 96, Op.fieldAddr 92 (Operand.tmp 95) 2, 0, _, _, none⟩) (v := .pointer (some ⟨g, 2, none⟩)) rfl (Or.inl ⟨by rfl, fun w hS => by have q0 := hS.c 0 (by rfl : (#[.int .i64 (0), .int .i64 (0)] : Array Value)[0]? = some (.int .i64 0)); have q1 := hS.c 1 (by rfl : (#[.int .i64 (0), .int .i64 (0)] : Array Value)[1]? = some (.int .i64 0)); go_simp⟩) hHeld ?_
  refine wpAnyH_ready (rs := [12]) (by kernel_rfl) (by simp) ?_
  refine AllReadyH.cons (o := ⟨none, Op.store 3 (Operand.tmp 96) (Operand.tmp 88), 0, _, _, none⟩) rfl (fun K hK => ?_) AllReadyH.nil
  rw [if_pos (by rfl)]
  have f_o := HJ12.out.frozen 2
  have cl : w11.drew.cell? ⟨g, 2, none⟩ = some (.int .i64 (-1)) := HJ12.out.c 2 rfl
  refine wp_cellS (w11.drew.setCell ⟨g, 2, none⟩ (.int .i64 0)) (by go_simp) ?_
  clear f_o cl
  have HJ13 : Keep (Blk (w11.drew.setCell ⟨g, 2, none⟩ (.int .i64 0)) g 92 (jA d (.slice a10 n10 c10) 0 sz la false)) := ⟨HJ12.out.set 2 _⟩
  have HP13 : Keep (Blk (w11.drew.setCell ⟨g, 2, none⟩ (.int .i64 0)) q 97 #[.int .i64 (0), .int .i64 (0)]) := ⟨HP12.out.set_ne (fun e => by have := hqw.out; have := HJ.out.lt; omega) _⟩
  have G13 : Keep (Grown w11 (w11.drew.setCell ⟨g, 2, none⟩ (.int .i64 0)) fun k => k = g) := ⟨(Grown.refl w11 (fun k => k = g)).drew.trans (Grown.setCell w11.drew g 2 _ fun _ => rfl)⟩
  generalize w11.drew.setCell ⟨g, 2, none⟩ (.int .i64 0) = w13 at *
  refine hK _ _ HP13.out fun hA12 => ?_
  clear hK
  simp only [Act.put, pqA, pqB, pqC]
  refine tkS (i := 13) (oi := ⟨some 97, Op.nilCheck (Operand.tmp 86), 0, _, _, none⟩) (v := .pointer (some ⟨g, 0, none⟩)) rfl (Or.inl ⟨by rfl, fun w hS => by have q0 := hS.c 0 (by rfl : (#[.int .i64 (0), .int .i64 (0)] : Array Value)[0]? = some (.int .i64 0)); have q1 := hS.c 1 (by rfl : (#[.int .i64 (0), .int .i64 (0)] : Array Value)[1]? = some (.int .i64 0)); go_simp⟩) hA12 ?_
  refine tkS (i := 14) (oi := ⟨some 98, Op.fieldAddr 92 (Operand.tmp 97) 3, 0, _, _, none⟩) (v := .pointer (some ⟨g, 3, none⟩)) rfl (Or.inl ⟨by rfl, fun w hS => by have q0 := hS.c 0 (by rfl : (#[.int .i64 (0), .int .i64 (0)] : Array Value)[0]? = some (.int .i64 0)); have q1 := hS.c 1 (by rfl : (#[.int .i64 (0), .int .i64 (0)] : Array Value)[1]? = some (.int .i64 0)); go_simp⟩) hA12 ?_
  refine wpAnyH_ready (rs := [15]) (by kernel_rfl) (by simp) ?_
  refine AllReadyH.cons (o := ⟨none, Op.store 3 (Operand.tmp 98) (Operand.tmp 94), 0, _, _, none⟩) rfl (fun K hK => ?_) AllReadyH.nil
  rw [if_pos (by rfl)]
  have f_o := HJ13.out.frozen 3
  have cl : w13.cell? ⟨g, 3, none⟩ = some (.int .i64 sz) := HJ13.out.c 3 rfl
  refine wp_cellS (w13.setCell ⟨g, 3, none⟩ (.int .i64 (16 + (l.length : Int)))) (by go_simp) ?_
  clear f_o cl
  have HJ14 : Keep (Blk (w13.setCell ⟨g, 3, none⟩ (.int .i64 (16 + (l.length : Int)))) g 92 (jA d (.slice a10 n10 c10) 0 (16 + (l.length : Int)) la false)) := ⟨HJ13.out.set 3 _⟩
  have HP14 : Keep (Blk (w13.setCell ⟨g, 3, none⟩ (.int .i64 (16 + (l.length : Int)))) q 97 #[.int .i64 (0), .int .i64 (0)]) := ⟨HP13.out.set_ne (fun e => by have := hqw.out; have := HJ.out.lt; omega) _⟩
  have G14 : Keep (Grown w11 (w13.setCell ⟨g, 3, none⟩ (.int .i64 (16 + (l.length : Int)))) fun k => k = g) := ⟨G13.out.trans (Grown.setCell w13 g 3 _ fun _ => rfl)⟩
  have HJ11t : Keep (Typ w11 g 92) := ⟨HJ11.out.typ⟩
  clear HJ12 HP12 HJ13 HP13 HJ11 hwl hw16
  generalize w13.setCell ⟨g, 3, none⟩ (.int .i64 (16 + (l.length : Int))) = w14 at *
  refine hK _ _ HP14.out fun hA13 => ?_
  clear hK
  have f_o := HJ14.out.frozen 4
  have cl : w14.cell? ⟨g, 4, none⟩ = some (.bool la) := HJ14.out.c 4 rfl
  simp only [Act.put, pqA, pqB, pqC]
  refine wpAnyH_done (by kernel_rfl) ?_ _
  refine hK20 _ _ ?_
  refine wp_seq_k fun K21 hK21 => rgn ?_
  refine VlS (.pointer (some ⟨g, 0, none⟩)) ?_
  refine VlS (.pointer (some ⟨g, 0, none⟩)) ?_
  refine VlS (.pointer (some ⟨g, 4, none⟩)) ?_
  refine WL.cell (by kernel_rfl) (w14.setCell ⟨g, 4, none⟩ (.bool true)) (by go_simp) ?_
  clear f_o cl
  have HJ15 : Keep (Blk (w14.setCell ⟨g, 4, none⟩ (.bool true)) g 92 (jA d (.slice a10 n10 c10) 0 (16 + (l.length : Int)) true false)) := ⟨HJ14.out.set 4 _⟩
  have G15 : Keep (Grown w11 (w14.setCell ⟨g, 4, none⟩ (.bool true)) fun k => k = g) := ⟨G14.out.trans (Grown.setCell w14 g 4 _ fun _ => rfl)⟩
  clear HJ14 G14
  generalize w14.setCell ⟨g, 4, none⟩ (.bool true) = w15 at *
  simp only [Act.put]
  refine WL.nil (hK21 _ _ ?_)
  refine wp_seq_k fun K22 hK22 => rgn ?_
  refine VlS (.int .i64 0) ?_
  refine WL.nil (hK22 _ _ ?_)
  refine wp_ret ?_
  go_ret
  refine ⟨rfl, .slice a10 n10 c10, vf', cs', HJ15.out, HO11.out.grown G15.out fun k hk e => ?_, ?_, GW11.out.next G15.out fun k _ e => .inr (.inl e), N7.out, M10.out⟩
  ·subst e; rcases M10.out _ hk with h | h; exact HPg.out _ h rfl; have := HJ.out.lt; omega
  ·rw [hnn.out] at HD11; exact HD11.out.grown G15.out fun k hk e => by subst e; have hj := HJ11t.out; rcases hk with h | h | h <;> (have := h.one hj; revert this; decide)
end Go.Proofs.YteijjfeainamdaaGreatDoor
