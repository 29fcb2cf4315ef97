import Derived.Test.YtlggejehaonkcaaDoorA03
import Derived.Test.YtlggejehaonkcaaDoorA04
import Derived.Deep.RegionHeld3
import Derived.Deep.MidRow
namespace Go.Proofs.YtlggejehaonkcaaDoor
open Go.RowKit
set_option linter.unusedSimpArgs false
set_option linter.unusedVariables false

theorem Tryd.in20 (w : World) (vs : Array Value) : (callFunc 20 vs).run Tryd.prog w = .ok (.enter 20 vs) w := by kernel_rfl
theorem Tryd.in22 (w : World) (vs : Array Value) : (callFunc 22 vs).run Tryd.prog w = .ok (.enter 22 vs) w := by kernel_rfl
def pL (l : List (Int × Int)) : List Value := l.flatMap fun c => [.int .i64 c.1, .int .i64 c.2]
theorem pL_len : ∀ l : List (Int × Int), (pL l).length = l.length * 2
 | [] => rfl
 | c :: r => by simp [pL]; have := pL_len r; simp [pL] at this; omega
theorem pL_one (l : List (Int × Int)) : ∀ u ∈ pL l, u.oneCell' = true := fun u hu => by
 simp [pL] at hu
 obtain ⟨a, b, _, rfl | rfl⟩ := hu <;> rfl
def OwnP (w : World) (v : Value) (l : List (Int × Int)) : Prop := w.ownsRow 0 88 2 v l.length (pL l)
theorem ownP_nil (w : World) : OwnP w (.slice none 0 0) [] := ⟨rfl, .inl ⟨rfl, rfl⟩⟩
theorem OwnP.sl {w : World} {v : Value} {l : List (Int × Int)} (h : OwnP w v l) : ∃ a c, v = .slice a l.length c := by
 rcases h.2 with ⟨rfl, h0⟩ | ⟨g, cap, cur, rfl, _⟩
 ·have : l.length = 0 := by have h1 := h.1; rw [h0] at h1; have := pL_len l; simp at h1; omega
  exact ⟨none, 0, by rw [this]⟩
 ·exact ⟨_, _, rfl⟩
theorem OwnP.grown {w w' : World} {v : Value} {l : List (Int × Int)} {S : Nat → Prop} (h : OwnP w v l) (hg : Grown w w' S) (hs : ∀ k, v.ownBlock = some k → ¬ S k) : OwnP w' v l := by
 rcases h with ⟨h1, h2 | ⟨g, cap, cur, h2, h3, h4, h5⟩⟩
 ·exact ⟨h1, .inl h2⟩
 ·exact ⟨h1, .inr ⟨g, cap, cur, h2, h3, hg.blk h4 (hs g (by rw [h2]; rfl)), h5⟩⟩
theorem OwnP.typ {w : World} {v : Value} {l : List (Int × Int)} (h : OwnP w v l) {k : Nat} (hk : v.ownBlock = some k) : Typ w k 88 := by
 rcases h.2 with ⟨rfl, _⟩ | ⟨g, cap, cur, rfl, _, h4, _⟩
 ·cases hk
 ·obtain rfl : g = k := Option.some.inj hk
  exact Blk.typ h4
theorem Tryd.infoPl : (Tryd.prog.info? 88).map (fun i => (i.zero, i.size, i.bytes)) = some (some (.agg #[.int .i64 (0), .int .i64 (0)]), 2, 16) := by kernel_rfl
theorem run_appP (w : World) (ty : TypeId) (v : Value) (l : List (Int × Int)) (hown : OwnP w v l) (g c : Nat) (x : Int × Int) (hg : Blk w g 88 #[.int .i64 (x.1), .int .i64 (x.2)]) (hb : l.length ≤ 1000000000000) :
  ∃ v' w', (Builtin.append_ #[79, 79] ty #[v, .slice (some ⟨g, 0, none⟩) 1 c]).run Tryd.prog w = .ok v' w' ∧ OwnP w' v' (l ++ [x]) ∧ (Grown w w' fun k => v.ownBlock = some k) ∧ Moved w v v' := by
 obtain ⟨i, hi, hzz⟩ := Option.map_eq_some_iff.1 Tryd.infoPl
 simp only [Prod.mk.injEq] at hzz
 obtain ⟨hz, hsz, hby⟩ := hzz
 obtain ⟨v', w', hr, h1, h2, _, h3⟩ := run_append_own_at (P := Tryd.prog) w 0 79 ty 88 i (.agg #[.int .i64 (0), .int .i64 (0)]) 2 16 Tryd.underlying79 hi hz hsz hby rfl (by omega) v l.length (pL l) hown ⟨g, 0, none⟩ 1 c (pL [x]) rfl (fun j u hu => by
   rw [Addr.add_mid, Nat.zero_add, hg.cell]; simpa [pL] using hu)
  (pL_one _) (by unfold maxLen; omega) (by omega) (Nat.zero_le _)
 refine ⟨v', w', hr, ?_, Grown.of h2 fun k _ e => e, ?_⟩
 ·unfold OwnP
  rw [List.length_append, show pL (l ++ [x]) = pL l ++ pL [x] by simp [pL]]
  exact h1
 ·rcases h3 with h3 | h3
  ·exact .inl h3
  ·exact .inr ⟨_, h3, Nat.le_refl _⟩
theorem wp_appP {Q : Exit → Act → World → Prop} {o : Oper} {a : Act} {w : World} {K : Act → World → Prop} (s x : Operand)
  (ho : o.op = .call { callee := .builtin .append, args := #[s, x], argTypes := #[79, 79] }) (v : Value) (l : List (Int × Int)) (g c : Nat) (y : Int × Int)
  (hs : a.eval s = v) (hx : a.eval x = .slice (some ⟨g, 0, none⟩) 1 c) (hown : OwnP w v l) (hg : Blk w g 88 #[.int .i64 (y.1), .int .i64 (y.2)]) (hb : l.length ≤ 1000000000000)
  (h : ∀ v' w', OwnP w' v' (l ++ [y]) → (Grown w w' fun k => v.ownBlock = some k) → Moved w v v' → K (a.put o.dst v') w') : o.wp Tryd.prog a w K Q := by
 obtain ⟨v', w', hr, h1, h2, h3⟩ := run_appP w o.type v l hown g c y hg hb
 unfold Oper.wp execOp
 simp only [ho, resolve, invoke, builtin, Sem.run_bind, Sem.run_pure, Result.andThen_ok, List.map_toArray, List.map_cons, List.map_nil, hs, hx, hr]
 exact h v' w' h1 h2 h3
theorem bsP (a b : Int) (w : World) : (Instr.buildSlice 79 1 #[(0, .agg #[.int .i64 (a), .int .i64 (b)])]).run Tryd.prog w = .ok (.slice (some ⟨w.heap.size, 0, none⟩) 1 1) (w.alloc (.cells #[.int .i64 (a), .int .i64 (b)] 88)) := by kernel_rfl
theorem wp_bs {P : Program} {o : Oper} {a : Act} {w : World} {K : Act → World → Prop} {Q : Exit → Act → World → Prop} (t : TypeId) (n : Nat) (parts : Array (Nat × Operand)) (ho : o.op = .buildSlice t n parts)
  (vs : Array (Nat × Value)) (hv : parts.map (fun x => (x.1, a.eval x.2)) = vs) (v : Value) (w' : World) (hrun : (Instr.buildSlice t n vs).run P w = .ok v w') (h : K (a.put o.dst v) w') : o.wp P a w K Q := by
 unfold Oper.wp execOp
 simp only [ho, hv, Sem.run_bind, hrun, Result.andThen_ok, Sem.run_pure]
 exact h
theorem nm0_rgt : rgt (nmS 0) = true := by rw [nmS_0]; decide +kernel
set_option maxRecDepth 8000 in
set_option maxHeartbeats 2000000 in
theorem japp_none (g d p i : Nat) (v vf vp : Value) (l : List Int) (cs : List FC) (D : DV) (pl : List (Int × Int)) (sz : Int) (la : Bool) (w : World) (hT : Tab w) (hJ : Blk w g 81 (jA d vp (-1) sz la false)) (hDk : Blk w d 53 #[ptr p]) (hD : DskAt w p vf cs D) (hPl : OwnP w vp pl) (hPp : ∀ k, vp.ownBlock = some k → k ≠ p) (hPn : pl.length ≤ 1000000000) (hO : D.out = false) (hF : fnd (nmS 0) D.fs 0 = (i, false)) (hC : cs.length < 256)
  (hL : 1 ≤ (l.length : Int) ∧ (l.length : Int) ≤ 1048576) (hU : 0 ≤ D.used ∧ 0 ≤ D.room ∧ D.room ≤ 70368744177664 ∧ 16 + (l.length : Int) ≤ D.room - D.used) (hA : 0 ≤ D.acts ∧ D.acts ≤ 4611686018427387904) (hFu : -9223372036854775808 < D.fuse ∧ D.fuse ≤ 9223372036854775807 ∧ ¬ D.fuse = 0) (hR : RowAt w v l) :
  Calls Tryd.prog 20 #[ptr g, v] w fun e w' => e = .returned (.int .i64 0) ∧ ∃ vp' vf' cs', Blk w' g 81 (jA d vp' 0 (16 + (l.length : Int)) true false) ∧ OwnP w' vp' (pl ++ [(0, 0)]) ∧ DskAt w' p vf' cs' (D.appNew i (nmS 0) (hl 16 (hdF l) ++ l)) ∧ (Grown w w' fun k => k = p ∨ k = g ∨ vp.ownBlock = some k) ∧ (∀ k, DskS p vf' cs' k → DskS p vf cs k ∨ w.heap.size ≤ k) ∧ ∀ k, vp'.ownBlock = some k → vp.ownBlock = some k ∨ w.heap.size ≤ k := by
 obtain ⟨ba, bc, rfl⟩ := row_form hR
 obtain ⟨pa, pc, rfl⟩ := hPl.sl
 have HZ : Keep (0 < w.heap.size) := ⟨Nat.lt_of_le_of_lt (Nat.zero_le _) hJ.lt⟩
 have HT := Keep.mk hT
 have HJ := Keep.mk hJ
 have HDk := Keep.mk hDk
 have HD := Keep.mk hD
 have HPl := Keep.mk hPl
 have HPp := Keep.mk hPp
 have HPn := Keep.mk hPn
 have HPw : Keep (∀ k, (Value.slice pa pl.length pc).ownBlock = some k → k < w.heap.size) := ⟨fun k hk => (hPl.typ hk).lt⟩
 have HPg : Keep (∀ k, (Value.slice pa pl.length pc).ownBlock = some k → k ≠ g) := ⟨fun k hk e => by subst e; have := (hPl.typ hk).one hJ.typ; revert this; decide⟩
 have HO := Keep.mk hO
 have HF := Keep.mk hF
 have HC := Keep.mk hC
 have HL := Keep.mk hL
 have HU := Keep.mk hU
 have HA := Keep.mk hA
 have HFu := Keep.mk hFu
 have HR := Keep.mk hR
 clear hT hJ hDk hD hPl hPp hPn hO hF hC hL hU hA hFu hR
 go_enter Tryd.func20, Tryd.ntmps20
 have c5 := HJ.out.c 5 (by rfl : (jA d (.slice pa pl.length pc) (-1) sz la false)[5]? = some (.bool false))
 have hl0 : ¬ (l.length : Int) = 0 := by have := HL.out; omega
 have hl1 : ¬ (1048576 : Int) < (l.length : Int) := by have := HL.out; omega
 have hln : ¬ l.length = 0 := by have := HL.out; omega
 have hwl : IntKind.i64.wrap (16 + (l.length : Int)) = 16 + (l.length : Int) := by rw [IntKind.wrap_i64]; have := HL.out; omega
 refine wp_seq_k fun K1 hK1 => rgn ?_
 refine VlS (.int .i64 0) ?_
 refine WL.nil (hK1 _ _ ?_)
 refine wp_seq_k fun K2 hK2 => ?_
 refine wp_block ?_
 refine wp_seq_k fun K3 hK3 => rgn ?_
 refine VlS (.pointer (some ⟨g, 0, none⟩)) ?_
 refine VlS (.pointer (some ⟨g, 0, none⟩)) ?_
 refine VlS (.pointer (some ⟨g, 5, none⟩)) ?_
 refine VlS (.bool false) ?_
 refine VlS (.bool false) ?_
 refine WL.nil (hK3 _ _ ?_)
 refine wp_cond_false rfl ?_
 refine wp_seq_k fun K4 hK4 => rgn ?_
 refine VlS (.slice ba l.length bc) ?_
 refine VlS (.int .i64 (l.length : Int)) ?_
 refine VlS (.bool false) ?_
 refine VlS (.bool false) ?_
 refine WL.nil (hK4 _ _ ?_)
 refine wp_cond_false rfl ?_
 refine wp_seq_k fun K5 hK5 => rgn ?_
 refine VlS (.slice ba l.length bc) ?_
 refine VlS (.int .i64 (l.length : Int)) ?_
 refine VlS (.bool false) ?_
 refine VlS (.bool false) ?_
 refine WL.nil (hK5 _ _ ?_)
 refine wp_cond_false rfl ?_
 refine wp_skip ?_
 refine hK2 _ _ ?_
 refine wp_seq_k fun K6 hK6 => rgn ?_
 refine VlS (.pointer (some ⟨g, 0, none⟩)) ?_
 refine VlS (.slice ba l.length bc) ?_
 refine VlS (.int .i64 (l.length : Int)) ?_
 refine VlS (.int .i64 (16 + (l.length : Int))) ?_
 clear c5 hl0 hl1 hln hwl
 refine WL.callF (by kernel_rfl) 33 _ _ rfl Tryd.in33 #[ptr g, .int .i64 (16 + (l.length : Int))] (by simp [Act.eval]) ?_
 refine (next_none g _ w (HJ.out.c 2 rfl)).mono ?_
 rintro e w1 ⟨rfl, hb1⟩
 refine ⟨_, rfl, ?_⟩
 have B1 := Keep.mk hb1
 clear hb1
 simp only [Act.put, pqA, pqB, pqC]
 refine WL.new (by kernel_rfl) 88 rfl _ Tryd.newPl ?_
 have HP := Keep.mk (Blk.new w1 88 #[.int .i64 (0), .int .i64 (0)])
 have hbx := below_new w1 (.cells #[.int .i64 (0), .int .i64 (0)] 88)
 have B2 : Keep (Below w.heap.size w (w1.alloc (.cells #[.int .i64 (0), .int .i64 (0)] 88))) := ⟨B1.out.trans (hbx.mono B1.out.size)⟩
 clear hbx
 change WL _ _ _ _ _ (w1.alloc (.cells #[.int .i64 (0), .int .i64 (0)] 88))
 generalize w1.alloc (.cells #[.int .i64 (0), .int .i64 (0)] 88) = w2 at *
 obtain ⟨q, hq⟩ : ∃ p, Keep (p = w1.heap.size) := ⟨_, ⟨rfl⟩⟩
 rw [← hq.out] at HP ⊢
 have hqw : Keep (w.heap.size ≤ q) := ⟨by rw [hq.out]; exact B1.out.size⟩
 simp only [Act.put, pqA, pqB, pqC]
 refine WL.storeR (by kernel_rfl) 88 (.tmp 5) (.tmp 25) rfl q #[.int .i64 (0), .int .i64 (0)] rfl rfl 88 #[.int .i64 (0), .int .i64 (0)] HP.out (by kernel_rfl) rfl (by kernel_rfl) ?_
 have HP3 := Keep.mk (HP.out.setRow #[.int .i64 (0), .int .i64 (0)])
 have B3 : Keep (Below w.heap.size w (w2.setRow q #[.int .i64 (0), .int .i64 (0)])) := ⟨below_setRow B2.out hqw.out _⟩
 clear HP
 generalize w2.setRow q #[.int .i64 (0), .int .i64 (0)] = w3 at *
 have q0 := HP3.out.c 0 (by rfl : (#[.int .i64 (0), .int .i64 (0)] : Array Value)[0]? = some (.int .i64 0))
 have HJ3 := Keep.mk (HJ.out.below B3.out HJ.out.lt)
 have HT3 := Keep.mk (HT.out.below B3.out HZ.out)
 simp only [Act.put]
 refine WL.nil (hK6 _ _ ?_)
 refine wp_seq_k fun K7 hK7 => ?_
 refine wp_seq_k fun K8 hK8 => rgn ?_
 refine VlS (.pointer (some ⟨q, 0, none⟩)) ?_
 refine VlS (.int .i64 0) ?_
 refine VlS (.bool false) ?_
 refine WL.nil (hK8 _ _ ?_)
 refine wp_cond_false rfl ?_
 refine wp_skip ?_
 refine hK7 _ _ ?_
 refine wp_seq_k fun K9 hK9 => ?_
 refine wp_seq_k fun K10 hK10 => ?_
 clear q0
 have hS0 : Keep (w3.drew.cell? ⟨g, 2, none⟩ = some (.int .i64 (-1))) := ⟨HJ3.out.drew.c 2 rfl⟩
 refine wp_region_held_drew (S := fun wx => wx.cell? ⟨g, 2, none⟩ = some (.int .i64 (-1))) (by kernel_rfl) (hS0.out) (fun hHeld => ?_)
 refine tkS (i := 0) (oi := ⟨some 29, Op.move (Operand.tmp 0), 56, _, _, none⟩) (v := .pointer (some ⟨g, 0, none⟩)) rfl (Or.inl ⟨by rfl, fun w hS => by go_simp⟩) hHeld ?_
 refine tkS (i := 1) (oi := ⟨some 30, Op.nilCheck (Operand.tmp 29), 0, _, _, none⟩) (v := .pointer (some ⟨g, 0, none⟩)) rfl (Or.inl ⟨by rfl, fun w hS => by go_simp⟩) hHeld ?_
 refine tkS (i := 2) (oi := ⟨some 31, Op.fieldAddr 81 (Operand.tmp 30) 2, 0, _, _, none⟩) (v := .pointer (some ⟨g, 2, none⟩)) rfl (Or.inl ⟨by rfl, fun w hS => by go_simp⟩) hHeld ?_
 refine tkS (i := 3) (oi := ⟨some 32, Op.load 3 (Operand.tmp 31), 3, _, _, none⟩) (v := .int .i64 (-1)) rfl (Or.inl ⟨by rfl, fun w hS => by go_simp⟩) hHeld ?_
 refine tkS (i := 4) (oi := ⟨some 33, Op.binOp BinOp.neq 3 (Operand.tmp 32) (Operand.const (Value.int IntKind.i64 (-1))) 3, 4, _, _, none⟩) (v := .bool false) rfl (Or.inl ⟨by rfl, fun w hS => by go_simp⟩) hHeld ?_
 refine tkS (i := 5) (oi := ⟨some 34, Op.move (Operand.tmp 33), 4, _, _, none⟩) (v := .bool false) rfl (Or.inl ⟨by rfl, fun w hS => by go_simp⟩) hHeld ?_
 refine tkS (i := 6) (oi := ⟨some 35, Op.fieldAddr 88 (Operand.tmp 5) 0, 0, _, _, some (5, true)⟩) (v := undef) rfl (Or.inr ⟨by rfl, rfl⟩) hHeld ?_
 refine tkS (i := 7) (oi := ⟨some 36, Op.load 3 (Operand.tmp 35), 3, _, _, some (5, true)⟩) (v := undef) rfl (Or.inr ⟨by rfl, rfl⟩) hHeld ?_
 refine tkS (i := 8) (oi := ⟨some 37, Op.move (Operand.tmp 0), 56, _, _, some (5, true)⟩) (v := undef) rfl (Or.inr ⟨by rfl, rfl⟩) hHeld ?_
 refine tkS (i := 9) (oi := ⟨some 38, Op.nilCheck (Operand.tmp 37), 0, _, _, some (5, true)⟩) (v := undef) rfl (Or.inr ⟨by rfl, rfl⟩) hHeld ?_
 refine tkS (i := 10) (oi := ⟨some 39, Op.fieldAddr 81 (Operand.tmp 38) 2, 0, _, _, some (5, true)⟩) (v := undef) rfl (Or.inr ⟨by rfl, rfl⟩) hHeld ?_
 refine tkS (i := 11) (oi := ⟨some 40, Op.load 3 (Operand.tmp 39), 3, _, _, some (5, true)⟩) (v := undef) rfl (Or.inr ⟨by rfl, rfl⟩) hHeld ?_
 refine tkS (i := 12) (oi := ⟨some 41, Op.binOp BinOp.neq 3 (Operand.tmp 36) (Operand.tmp 40) 3, 4, _, _, some (5, true)⟩) (v := undef) rfl (Or.inr ⟨by rfl, rfl⟩) hHeld ?_
 refine tkS (i := 13) (oi := ⟨some 42, Op.pick (Operand.tmp 34) (Operand.tmp 41) (Operand.const (Value.bool false)), 4, _, _, none⟩) (v := .bool false) rfl (Or.inl ⟨by rfl, fun w hS => by go_simp⟩) hHeld ?_
 refine wpAnyH_done (by kernel_rfl) ?_ _
 refine hK10 _ _ ?_
 refine wp_cond_false rfl ?_
 refine wp_skip ?_
 refine hK9 _ _ ?_
 refine wp_seq_k fun K11 hK11 => ?_
 have HJ4 : Keep (Blk w3.drew g 81 (jA d (.slice pa pl.length pc) (-1) sz la false)) := ⟨HJ3.out.drew⟩
 have HP4 : Keep (Blk w3.drew q 88 #[.int .i64 (0), .int .i64 (0)]) := ⟨HP3.out.drew⟩
 have HT4 : Keep (Tab w3.drew) := ⟨HT3.out.below (Below.refl w3.heap.size w3).drew (Nat.lt_of_le_of_lt (Nat.zero_le _) HJ3.out.lt)⟩
 have B4 : Keep (Below w.heap.size w w3.drew) := ⟨B3.out.drew⟩
 clear hS0 HJ3 HP3 HT3
 generalize w3.drew = w4 at *
 have HS4 : Keep (∀ wx, Below w4.heap.size w4 wx → wx.cell? ⟨g, 0, none⟩ = some (ptr d) ∧ wx.cell? ⟨q, 0, none⟩ = some (.int .i64 0)) := ⟨fun wx hx => ⟨(HJ4.out.below hx HJ4.out.lt).c 0 rfl, (HP4.out.below hx HP4.out.lt).c 0 rfl⟩⟩
 have D4 : Keep (Below w4.heap.size w4 w4.drew) := ⟨(Below.refl _ _).drew⟩
 refine wp_region_held_drew (S := fun wx => wx.cell? ⟨g, 0, none⟩ = some (ptr d) ∧ wx.cell? ⟨q, 0, none⟩ = some (.int .i64 0)) (by kernel_rfl) (HS4.out _ D4.out) (fun hHeld => ?_)
 refine tkS (i := 0) (oi := ⟨some 58, Op.move (Operand.tmp 0), 56, _, _, none⟩) (v := .pointer (some ⟨g, 0, none⟩)) rfl (Or.inl ⟨by rfl, fun w hS => by obtain ⟨hS1, hS2⟩ := hS; go_simp⟩) hHeld ?_
 refine tkS (i := 1) (oi := ⟨some 59, Op.move (Operand.tmp 0), 56, _, _, none⟩) (v := .pointer (some ⟨g, 0, none⟩)) rfl (Or.inl ⟨by rfl, fun w hS => by obtain ⟨hS1, hS2⟩ := hS; go_simp⟩) hHeld ?_
 refine tkS (i := 2) (oi := ⟨some 60, Op.nilCheck (Operand.tmp 59), 0, _, _, none⟩) (v := .pointer (some ⟨g, 0, none⟩)) rfl (Or.inl ⟨by rfl, fun w hS => by obtain ⟨hS1, hS2⟩ := hS; go_simp⟩) hHeld ?_
 refine tkS (i := 3) (oi := ⟨some 61, Op.fieldAddr 81 (Operand.tmp 60) 0, 0, _, _, none⟩) (v := .pointer (some ⟨g, 0, none⟩)) rfl (Or.inl ⟨by rfl, fun w hS => by obtain ⟨hS1, hS2⟩ := hS; go_simp⟩) hHeld ?_
 refine tkS (i := 4) (oi := ⟨some 62, Op.load 26 (Operand.tmp 61), 26, _, _, none⟩) (v := .pointer (some ⟨d, 0, none⟩)) rfl (Or.inl ⟨by rfl, fun w hS => by obtain ⟨hS1, hS2⟩ := hS; go_simp⟩) hHeld ?_
 refine tkS (i := 5) (oi := ⟨some 63, Op.fieldAddr 88 (Operand.tmp 5) 0, 0, _, _, none⟩) (v := .pointer (some ⟨q, 0, none⟩)) rfl (Or.inl ⟨by rfl, fun w hS => by obtain ⟨hS1, hS2⟩ := hS; go_simp⟩) hHeld ?_
 refine tkS (i := 6) (oi := ⟨some 64, Op.load 3 (Operand.tmp 63), 3, _, _, none⟩) (v := .int .i64 0) rfl (Or.inl ⟨by rfl, fun w hS => by obtain ⟨hS1, hS2⟩ := hS; go_simp⟩) hHeld ?_
 refine tkS (i := 8) (oi := ⟨some 66, Op.move (Operand.tmp 1), 41, _, _, none⟩) (v := .slice ba l.length bc) rfl (Or.inl ⟨by rfl, fun w hS => by obtain ⟨hS1, hS2⟩ := hS; go_simp⟩) hHeld ?_
 refine wpAnyH_ready (rs := [7]) (by kernel_rfl) (by simp) ?_
 refine AllReadyH.cons (o := ⟨some 65, Op.call { callee := Callee.value (Operand.func 31), args := #[Operand.tmp 64], argTypes := #[3] }, 9, _, _, none⟩) rfl (fun K hK => ?_) AllReadyH.nil
 rw [if_pos (by rfl)]
 refine wp_callF 31 _ _ rfl Tryd.in31 #[.int .i64 ((0 : Nat) : Int)] (by simp [Act.eval]) (fun vz wz => vz = .string (nmS 0) ∧ Below w4.heap.size w4 wz) ?_ ?_
 ·refine (name_any 0 (by omega) w4.drew (HT4.out.below D4.out (Nat.lt_of_le_of_lt (Nat.zero_le _) HJ4.out.lt))).mono ?_
  rintro e wz ⟨rfl, h⟩
  exact ⟨_, rfl, rfl, D4.out.trans (h.mono D4.out.size)⟩
 rintro vz w5 ⟨rfl, h5⟩
 have B5 := Keep.mk h5
 clear h5
 obtain ⟨nn, hnn⟩ : ∃ s, Keep (s = nmS 0) := ⟨_, ⟨rfl⟩⟩
 rw [← hnn.out]
 refine hK _ _ (HS4.out _ B5.out) fun hH5 => ?_
 clear hK
 simp only [Act.put, pqA, pqB, pqC]
 refine wpAnyH_ready (rs := [9]) (by kernel_rfl) (by simp) ?_
 refine AllReadyH.cons (o := ⟨some 67, Op.call { callee := Callee.value (Operand.func 36), args := #[Operand.tmp 66], argTypes := #[41] }, 41, _, _, none⟩) rfl (fun K hK => ?_) AllReadyH.nil
 rw [if_pos (by rfl)]
 refine wp_callF 36 _ _ rfl Tryd.in36 #[.slice ba l.length bc] (by simp [Act.eval]) (fun vz wz => Own wz vz (hl 16 (hdF l) ++ l) ∧ (∀ k, vz.ownBlock = some k → w5.heap.size ≤ k) ∧ Below w5.heap.size w5 wz) ?_ ?_
 ·refine (frame_any _ l w5 (HR.out.below (B4.out.trans (B5.out.mono B4.out.size))) (by have := HL.out; omega)).mono ?_
  rintro e wz ⟨v6, rfl, h1, h2, h3⟩
  exact ⟨_, rfl, h1, h2, h3⟩
 rintro vz w6 ⟨h1, h2, h3⟩
 have HO6 := Keep.mk h1
 have N6 := Keep.mk h2
 have B6 : Keep (Below w4.heap.size w4 w6) := ⟨B5.out.trans (h3.mono B5.out.size)⟩
 have L6 : Keep (w4.heap.size ≤ w5.heap.size ∧ w.heap.size ≤ w4.heap.size) := ⟨B5.out.size, B4.out.size⟩
 clear h1 h2 h3
 obtain ⟨va, vn, vc, e6⟩ := HO6.out.sl
 subst e6
 refine hK _ _ (HS4.out _ B6.out) fun hH6 => ?_
 clear hK
 simp only [Act.put, pqA, pqB, pqC]
 refine wpAnyH_ready (rs := [10]) (by kernel_rfl) (by simp) ?_
 refine AllReadyH.cons (o := ⟨some 68, Op.call { callee := Callee.value (Operand.func 35), args := #[Operand.tmp 62, Operand.tmp 65, Operand.tmp 67], argTypes := #[26, 9, 41] }, 31, _, _, none⟩) rfl (fun K hK => ?_) AllReadyH.nil
 rw [if_pos (by rfl)]
 have BW6 : Keep (Below w.heap.size w w6) := ⟨B4.out.trans (B6.out.mono B4.out.size)⟩
 refine wp_callF 35 _ _ rfl Tryd.in35 #[ptr d, .string nn, .slice va vn vc] (by simp [Act.eval]) (fun vz wz => vz = .int .i64 0 ∧ ∃ vf' cs', DskAt wz p vf' cs' (D.appNew i nn (hl 16 (hdF l) ++ l)) ∧ (Grown w6 wz fun k => k = p) ∧ ∀ k, DskS p vf' cs' k → DskS p vf cs k ∨ w6.heap.size ≤ k) ?_ ?_
 ·refine (append_new d p i nn (.slice va vn vc) vf (hl 16 (hdF l) ++ l) cs D w6 (HDk.out.below BW6.out HDk.out.lt) (HD.out.below BW6.out) HO.out (by rw [hnn.out]; exact nm0_rgt) (by rw [hnn.out]; exact HF.out) HC.out (by have := HU.out; simp [hl_len]; omega) HA.out HFu.out HO6.out.row (fun k hk e => by have := N6.out k hk; have := L6.out; have := HD.out.blk.lt; omega)).mono ?_
  rintro e wz ⟨rfl, vf1, cs1, h1, h2, h3⟩
  exact ⟨_, rfl, rfl, vf1, cs1, h1, h2, h3⟩
 rintro vz w7 ⟨rfl, vf', cs', h1, h2, h3⟩
 have HD7 := Keep.mk h1
 have G7 := Keep.mk h2
 have N7 : Keep (∀ k, DskS p vf' cs' k → DskS p vf cs k ∨ w.heap.size ≤ k) := ⟨fun k hk => (h3 k hk).imp id fun h => by have := BW6.out.size; omega⟩
 clear h1 h2 h3
 have HJ7 : Keep (Blk w7 g 81 (jA d (.slice pa pl.length pc) (-1) sz la false)) := ⟨G7.out.blk (HJ4.out.below B6.out HJ4.out.lt) (fun e => by subst e; have := HJ.out.typ.one HD.out.blk.typ; revert this; decide)⟩
 have HP7 : Keep (Blk w7 q 88 #[.int .i64 (0), .int .i64 (0)]) := ⟨G7.out.blk (HP4.out.below B6.out HP4.out.lt) (fun e => by have := hqw.out; have := HD.out.blk.lt; omega)⟩
 have HO7 : Keep (OwnP w7 (.slice pa pl.length pc) pl) := ⟨(HPl.out.grown (Grown.below (S := fun _ => False) BW6.out) fun _ _ h => h).grown G7.out fun k hk e => HPp.out k hk e⟩
 have GW7 : Keep (Grown w w7 fun k => k = p) := ⟨(Grown.below BW6.out).trans G7.out⟩
 refine hK _ _ (⟨HJ7.out.c 0 rfl, HP7.out.c 0 rfl⟩) fun hH7 => ?_
 clear hK
 simp only [Act.put, pqA, pqB, pqC]
 refine wpAnyH_ready (rs := [11]) (by kernel_rfl) (by simp) ?_
 refine AllReadyH.cons (o := ⟨some 69, Op.call { callee := Callee.value (Operand.func 29), args := #[Operand.tmp 58, Operand.tmp 68], argTypes := #[56, 31] }, 31, _, _, none⟩) rfl (fun K hK => ?_) AllReadyH.nil
 rw [if_pos (by rfl)]
 refine wp_callF 29 _ _ rfl Tryd.in29 #[ptr g, .int .i64 0] (by simp [Act.eval]) (fun vz wz => vz = .int .i64 0 ∧ w7 = wz) ?_ ?_
 ·refine (told_ok g 0 (by omega) w7).mono ?_
  rintro e wz ⟨rfl, h⟩
  exact ⟨_, rfl, rfl, h.symm⟩
 rintro vz wy ⟨rfl, hy⟩
 subst hy
 refine hK _ _ (⟨HJ7.out.c 0 rfl, HP7.out.c 0 rfl⟩) fun hH8 => ?_
 clear hK
 simp only [Act.put, pqA, pqB, pqC]
 refine tkS (i := 12) (oi := ⟨some 7, Op.assign (Operand.tmp 69), 31, _, _, none⟩) (v := .int .i64 0) rfl (Or.inl ⟨by rfl, fun w hS => by obtain ⟨hS1, hS2⟩ := hS; go_simp⟩) hH8 ?_
 refine wpAnyH_done (by kernel_rfl) ?_ _
 refine hK11 _ _ ?_
 refine wp_seq_k fun K12 hK12 => ?_
 refine wp_seq_k fun K13 hK13 => rgn ?_
 refine VlS (.int .i64 0) ?_
 refine VlS (.bool false) ?_
 refine WL.nil (hK13 _ _ ?_)
 refine wp_cond_false rfl ?_
 refine wp_skip ?_
 refine hK12 _ _ ?_
 refine wp_seq_k fun K14 hK14 => ?_
 refine wp_seq_k fun K15 hK15 => rgn ?_
 refine VlS (.int .i64 0) ?_
 refine VlS (.bool false) ?_
 refine WL.nil (hK15 _ _ ?_)
 refine wp_cond_false rfl ?_
 refine wp_skip ?_
 refine hK14 _ _ ?_
 refine wp_seq_k fun K16 hK16 => ?_
 have HJ8 : Keep (Blk w7.drew g 81 (jA d (.slice pa pl.length pc) (-1) sz la false)) := ⟨HJ7.out.drew⟩
 have HP8 : Keep (Blk w7.drew q 88 #[.int .i64 (0), .int .i64 (0)]) := ⟨HP7.out.drew⟩
 have HO8 : Keep (OwnP w7.drew (.slice pa pl.length pc) pl) := ⟨HO7.out⟩
 have HD8 : Keep (DskAt w7.drew p vf' cs' (D.appNew i nn (hl 16 (hdF l) ++ l))) := ⟨HD7.out.grown (Grown.refl w7 (fun _ => False)).drew fun _ _ h => h⟩
 have GW8 : Keep (Grown w w7.drew fun k => k = p) := ⟨GW7.out.drew⟩
 clear HJ7 HP7 HO7 HD7 GW7 HJ4 HP4 HS4 HT4 G7 B6 B5 BW6 HO6 N6 L6 D4
 refine wp_region_held_drew (S := fun wx => Blk wx q 88 #[.int .i64 (0), .int .i64 (0)]) (by kernel_rfl) (HP8.out) (fun hHeld => ?_)
 generalize w7.drew = w8 at *
 refine tkS (i := 0) (oi := ⟨some 75, Op.move (Operand.tmp 0), 56, _, _, none⟩) (v := .pointer (some ⟨g, 0, none⟩)) rfl (Or.inl ⟨by rfl, fun w hS => by go_simp⟩) hHeld ?_
 refine tkS (i := 1) (oi := ⟨some 76, Op.move (Operand.tmp 0), 56, _, _, none⟩) (v := .pointer (some ⟨g, 0, none⟩)) rfl (Or.inl ⟨by rfl, fun w hS => by go_simp⟩) hHeld ?_
 refine tkS (i := 2) (oi := ⟨some 77, Op.nilCheck (Operand.tmp 76), 0, _, _, none⟩) (v := .pointer (some ⟨g, 0, none⟩)) rfl (Or.inl ⟨by rfl, fun w hS => by go_simp⟩) hHeld ?_
 refine tkS (i := 3) (oi := ⟨some 78, Op.fieldAddr 81 (Operand.tmp 77) 1, 0, _, _, none⟩) (v := .pointer (some ⟨g, 1, none⟩)) rfl (Or.inl ⟨by rfl, fun w hS => by go_simp⟩) hHeld ?_
 refine tkS (i := 5) (oi := ⟨some 80, Op.load 88 (Operand.tmp 5), 88, _, _, none⟩) (v := .agg #[.int .i64 (0), .int .i64 (0)]) rfl (yieldsIf_load_mid (by rfl) 88 (.tmp 5) rfl q 0 rfl (#[.int .i64 (0), .int .i64 (0)] : Array Value).toList _ (fun w hS => blk_range hS) Tryd.underlying88 rfl (by kernel_rfl)) hHeld ?_
 refine wpAnyH_ready (rs := [4, 6]) (by kernel_rfl) (by simp) ?_
 refine AllReadyH.cons (o := ⟨some 79, Op.load 79 (Operand.tmp 78), 79, _, _, none⟩) rfl (fun K hK => ?_) (AllReadyH.cons (o := ⟨some 81, Op.buildSlice 79 1 #[(0, Operand.tmp 80)], 79, _, _, none⟩) rfl (fun K hK => ?_) AllReadyH.nil)
 all_goals rw [if_pos (by rfl)]
 ·have cl : w8.cell? ⟨g, 1, none⟩ = some (.slice pa pl.length pc) := HJ8.out.c 1 rfl
  refine wp_val (.slice pa pl.length pc) (by go_simp) ?_
  clear cl
  refine hK _ _ (HP8.out) fun hL8 => ?_
  clear hK
  simp only [Act.put, pqA, pqB, pqC]
  refine wpAnyH_ready (rs := [6]) (by kernel_rfl) (by simp) ?_
  refine AllReadyH.cons (o := ⟨some 81, Op.buildSlice 79 1 #[(0, Operand.tmp 80)], 79, _, _, none⟩) rfl (fun K hK => ?_) AllReadyH.nil
  rw [if_pos (by rfl)]
  refine wp_bs 79 1 _ rfl #[(0, .agg #[.int .i64 (0), .int .i64 (0)])] (by simp [Act.eval]) _ _ (bsP 0 0 w8) ?_
  have hbx := below_new w8 (.cells #[.int .i64 (0), .int .i64 (0)] 88)
  have HN9 := Keep.mk (Blk.new w8 88 #[.int .i64 (0), .int .i64 (0)])
  have HJ9 := Keep.mk (HJ8.out.below hbx HJ8.out.lt)
  have HP9 := Keep.mk (HP8.out.below hbx HP8.out.lt)
  have HO9 := Keep.mk (HO8.out.grown (Grown.below (S := fun _ => False) hbx) fun _ _ h => h)
  have HD9 := Keep.mk (HD8.out.below hbx)
  have GW9 : Keep (Grown w (w8.alloc (.cells #[.int .i64 (0), .int .i64 (0)] 88)) fun k => k = p) := ⟨GW8.out.trans (Grown.below hbx)⟩
  clear hbx
  generalize w8.alloc (.cells #[.int .i64 (0), .int .i64 (0)] 88) = w9 at *
  obtain ⟨g9, hg9⟩ : ∃ p, Keep (p = w8.heap.size) := ⟨_, ⟨rfl⟩⟩
  rw [← hg9.out] at HN9 ⊢
  refine hK _ _ (HP9.out) fun hB9 => ?_
  clear hK
  simp only [Act.put, pqA, pqB, pqC]
  refine wpAnyH_ready (rs := [7]) (by kernel_rfl) (by simp) ?_
  refine AllReadyH.cons (o := ⟨some 82, Op.call { callee := Callee.builtin Builtin.append, args := #[Operand.tmp 79, Operand.tmp 81], argTypes := #[79, 79] }, 79, _, _, none⟩) rfl (fun K hK => ?_) AllReadyH.nil
  rw [if_pos (by rfl)]
  refine wp_appP (.tmp 79) (.tmp 81) rfl (.slice pa pl.length pc) pl g9 1 (0, 0) rfl rfl HO9.out HN9.out (by have := HPn.out; omega) fun v10 w10 h1 h2 h3 => ?_
  have HO10 := Keep.mk h1
  have M10 : Keep (∀ k, v10.ownBlock = some k → (Value.slice pa pl.length pc).ownBlock = some k ∨ w.heap.size ≤ k) := ⟨fun k hk => by rcases h3 with e | ⟨j, e, hj⟩ <;> rw [hk] at e; exact .inl e.symm; right; have := Option.some.inj e; have := GW9.out.size; omega⟩
  have HJ10 : Keep (Blk w10 g 81 (jA d (.slice pa pl.length pc) (-1) sz la false)) := ⟨h2.blk HJ9.out fun e => HPg.out g e rfl⟩
  have HP10 : Keep (Blk w10 q 88 #[.int .i64 (0), .int .i64 (0)]) := ⟨h2.blk HP9.out fun e => by have := HPw.out q e; have := hqw.out; omega⟩
  have HD10 : Keep (DskAt w10 p vf' cs' (D.appNew i nn (hl 16 (hdF l) ++ l))) := ⟨HD9.out.grown h2 fun k hk e => by have ht := HO9.out.typ e; rcases hk with h | h | h <;> (have := h.one ht; revert this; decide)⟩
  have GW10 : Keep (Grown w w10 fun k => k = p ∨ k = g ∨ (Value.slice pa pl.length pc).ownBlock = some k) := ⟨(GW9.out.mono fun k _ e => .inl e).next h2 fun k _ e => .inr (.inr e)⟩
  clear h1 h2 h3
  obtain ⟨a10, c10, e10⟩ := HO10.out.sl
  subst e10
  obtain ⟨n10, hn10⟩ : ∃ q, Keep (q = (pl ++ [(0, 0)]).length) := ⟨_, ⟨rfl⟩⟩
  rw [← hn10.out] at HO10 M10 ⊢
  refine hK _ _ (HP10.out) fun hA10 => ?_
  clear hK
  simp only [Act.put, pqA, pqB, pqC]
  refine tkS (i := 8) (oi := ⟨some 83, Op.nilCheck (Operand.tmp 75), 0, _, _, none⟩) (v := .pointer (some ⟨g, 0, none⟩)) rfl (Or.inl ⟨by rfl, fun w hS => by go_simp⟩) hA10 ?_
  refine tkS (i := 9) (oi := ⟨some 84, Op.fieldAddr 81 (Operand.tmp 83) 1, 0, _, _, none⟩) (v := .pointer (some ⟨g, 1, none⟩)) rfl (Or.inl ⟨by rfl, fun w hS => by go_simp⟩) hA10 ?_
  refine wpAnyH_ready (rs := [10]) (by kernel_rfl) (by simp) ?_
  refine AllReadyH.cons (o := ⟨none, Op.store 79 (Operand.tmp 84) (Operand.tmp 82), 0, _, _, none⟩) rfl (fun K hK => ?_) AllReadyH.nil
  rw [if_pos (by rfl)]
  have f_o := HJ10.out.frozen 1
  have cl : w10.cell? ⟨g, 1, none⟩ = some (.slice pa pl.length pc) := HJ10.out.c 1 rfl
  refine wp_cellS (w10.setCell ⟨g, 1, none⟩ (.slice a10 n10 c10)) (by go_simp) ?_
  clear f_o cl
  have HJ11 : Keep (Blk (w10.setCell ⟨g, 1, none⟩ (.slice a10 n10 c10)) g 81 (jA d (.slice a10 n10 c10) (-1) sz la false)) := ⟨HJ10.out.set 1 (.slice a10 n10 c10)⟩
  have hgs : Grown w10 (w10.setCell ⟨g, 1, none⟩ (.slice a10 n10 c10)) fun k => k = g := Grown.setCell w10 g 1 _ fun _ => rfl
  have HP11 : Keep (Blk (w10.setCell ⟨g, 1, none⟩ (.slice a10 n10 c10)) q 88 #[.int .i64 (0), .int .i64 (0)]) := ⟨hgs.blk HP10.out fun e => by have := hqw.out; have := HJ.out.lt; omega⟩
  have HO11 : Keep (OwnP (w10.setCell ⟨g, 1, none⟩ (.slice a10 n10 c10)) (.slice a10 n10 c10) (pl ++ [(0, 0)])) := ⟨HO10.out.grown hgs fun k hk e => by subst e; rcases M10.out _ hk with h | h; exact HPg.out _ h rfl; have := HJ.out.lt; omega⟩
  have HD11 : Keep (DskAt (w10.setCell ⟨g, 1, none⟩ (.slice a10 n10 c10)) p vf' cs' (D.appNew i nn (hl 16 (hdF l) ++ l))) := ⟨HD10.out.grown hgs fun k hk e => by subst e; have hj := HJ10.out.typ; rcases hk with h | h | h <;> (have := h.one hj; revert this; decide)⟩
  have GW11 : Keep (Grown w (w10.setCell ⟨g, 1, none⟩ (.slice a10 n10 c10)) fun k => k = p ∨ k = g ∨ (Value.slice pa pl.length pc).ownBlock = some k) := ⟨GW10.out.next hgs fun k _ e => .inr (.inl e)⟩
  clear hgs HJ10 HP10 HO10 HD10 GW10
  generalize w10.setCell ⟨g, 1, none⟩ (.slice a10 n10 c10) = w11 at *
  refine hK _ _ (HP11.out) fun hS11 => ?_
  clear hK
  simp only [Act.put, pqA, pqB, pqC]
  refine wpAnyH_done (by kernel_rfl) ?_ _
  refine hK16 _ _ ?_
  refine wp_seq_k fun K17 hK17 => ?_
  have HP12 : Keep (Blk w11.drew q 88 #[.int .i64 (0), .int .i64 (0)]) := ⟨HP11.out.drew⟩
  have HJ12 : Keep (Blk w11.drew g 81 (jA d (.slice a10 n10 c10) (-1) sz la false)) := ⟨HJ11.out.drew⟩
  have hwl : IntKind.i64.wrap (16 + (l.length : Int)) = 16 + (l.length : Int) := by rw [IntKind.wrap_i64]; have := HL.out; omega
  have hw16 : IntKind.i64.wrap 16 = 16 := by rw [IntKind.wrap_i64]; rfl
  refine wp_region_held_drew (S := fun wx => Blk wx q 88 #[.int .i64 (0), .int .i64 (0)]) (by kernel_rfl) (HP12.out) (fun hHeld => ?_)
  refine tkS (i := 0) (oi := ⟨some 85, Op.move (Operand.tmp 0), 56, _, _, none⟩) (v := .pointer (some ⟨g, 0, none⟩)) rfl (Or.inl ⟨by rfl, fun w hS => by have q0 := hS.c 0 (by rfl : (#[.int .i64 (0), .int .i64 (0)] : Array Value)[0]? = some (.int .i64 0)); have q1 := hS.c 1 (by rfl : (#[.int .i64 (0), .int .i64 (0)] : Array Value)[1]? = some (.int .i64 0)); go_simp⟩) hHeld ?_
  refine tkS (i := 1) (oi := ⟨some 86, Op.move (Operand.tmp 0), 56, _, _, none⟩) (v := .pointer (some ⟨g, 0, none⟩)) rfl (Or.inl ⟨by rfl, fun w hS => by have q0 := hS.c 0 (by rfl : (#[.int .i64 (0), .int .i64 (0)] : Array Value)[0]? = some (.int .i64 0)); have q1 := hS.c 1 (by rfl : (#[.int .i64 (0), .int .i64 (0)] : Array Value)[1]? = some (.int .i64 0)); go_simp⟩) hHeld ?_
  refine tkS (i := 2) (oi := ⟨some 87, Op.fieldAddr 88 (Operand.tmp 5) 0, 0, _, _, none⟩) (v := .pointer (some ⟨q, 0, none⟩)) rfl (Or.inl ⟨by rfl, fun w hS => by have q0 := hS.c 0 (by rfl : (#[.int .i64 (0), .int .i64 (0)] : Array Value)[0]? = some (.int .i64 0)); have q1 := hS.c 1 (by rfl : (#[.int .i64 (0), .int .i64 (0)] : Array Value)[1]? = some (.int .i64 0)); go_simp⟩) hHeld ?_
  refine tkS (i := 3) (oi := ⟨some 88, Op.load 3 (Operand.tmp 87), 3, _, _, none⟩) (v := .int .i64 0) rfl (Or.inl ⟨by rfl, fun w hS => by have q0 := hS.c 0 (by rfl : (#[.int .i64 (0), .int .i64 (0)] : Array Value)[0]? = some (.int .i64 0)); have q1 := hS.c 1 (by rfl : (#[.int .i64 (0), .int .i64 (0)] : Array Value)[1]? = some (.int .i64 0)); go_simp⟩) hHeld ?_
  refine tkS (i := 4) (oi := ⟨some 89, Op.fieldAddr 88 (Operand.tmp 5) 1, 0, _, _, none⟩) (v := .pointer (some ⟨q, 1, none⟩)) rfl (Or.inl ⟨by rfl, fun w hS => by have q0 := hS.c 0 (by rfl : (#[.int .i64 (0), .int .i64 (0)] : Array Value)[0]? = some (.int .i64 0)); have q1 := hS.c 1 (by rfl : (#[.int .i64 (0), .int .i64 (0)] : Array Value)[1]? = some (.int .i64 0)); go_simp⟩) hHeld ?_
  refine tkS (i := 5) (oi := ⟨some 90, Op.load 3 (Operand.tmp 89), 3, _, _, none⟩) (v := .int .i64 0) rfl (Or.inl ⟨by rfl, fun w hS => by have q0 := hS.c 0 (by rfl : (#[.int .i64 (0), .int .i64 (0)] : Array Value)[0]? = some (.int .i64 0)); have q1 := hS.c 1 (by rfl : (#[.int .i64 (0), .int .i64 (0)] : Array Value)[1]? = some (.int .i64 0)); go_simp⟩) hHeld ?_
  refine tkS (i := 6) (oi := ⟨some 91, Op.binOp BinOp.add 3 (Operand.tmp 90) (Operand.const (Value.int IntKind.i64 16)) 3, 3, _, _, none⟩) (v := .int .i64 16) rfl (Or.inl ⟨by rfl, fun w hS => by have q0 := hS.c 0 (by rfl : (#[.int .i64 (0), .int .i64 (0)] : Array Value)[0]? = some (.int .i64 0)); have q1 := hS.c 1 (by rfl : (#[.int .i64 (0), .int .i64 (0)] : Array Value)[1]? = some (.int .i64 0)); go_simp⟩) hHeld ?_
  refine tkS (i := 7) (oi := ⟨some 92, Op.move (Operand.tmp 1), 41, _, _, none⟩) (v := .slice ba l.length bc) rfl (Or.inl ⟨by rfl, fun w hS => by have q0 := hS.c 0 (by rfl : (#[.int .i64 (0), .int .i64 (0)] : Array Value)[0]? = some (.int .i64 0)); have q1 := hS.c 1 (by rfl : (#[.int .i64 (0), .int .i64 (0)] : Array Value)[1]? = some (.int .i64 0)); go_simp⟩) hHeld ?_
  refine tkS (i := 8) (oi := ⟨some 93, Op.call { callee := Callee.builtin Builtin.len, args := #[Operand.tmp 92], argTypes := #[41] }, 3, _, _, none⟩) (v := .int .i64 (l.length : Int)) rfl (Or.inl ⟨by rfl, fun w hS => by have q0 := hS.c 0 (by rfl : (#[.int .i64 (0), .int .i64 (0)] : Array Value)[0]? = some (.int .i64 0)); have q1 := hS.c 1 (by rfl : (#[.int .i64 (0), .int .i64 (0)] : Array Value)[1]? = some (.int .i64 0)); go_simp⟩) hHeld ?_
  refine tkS (i := 9) (oi := ⟨some 94, Op.binOp BinOp.add 3 (Operand.tmp 91) (Operand.tmp 93) 3, 3, _, _, none⟩) (v := .int .i64 (16 + (l.length : Int))) rfl (Or.inl ⟨by rfl, fun w hS => by have q0 := hS.c 0 (by rfl : (#[.int .i64 (0), .int .i64 (0)] : Array Value)[0]? = some (.int .i64 0)); have q1 := hS.c 1 (by rfl : (#[.int .i64 (0), .int .i64 (0)] : Array Value)[1]? = some (.int .i64 0)); go_simp⟩) hHeld ?_
  refine tkS (i := 10) (oi := ⟨some 95, Op.nilCheck (Operand.tmp 85), 0, _, _, none⟩) (v := .pointer (some ⟨g, 0, none⟩)) rfl (Or.inl ⟨by rfl, fun w hS => by have q0 := hS.c 0 (by rfl : (#[.int .i64 (0), .int .i64 (0)] : Array Value)[0]? = some (.int .i64 0)); have q1 := hS.c 1 (by rfl : (#[.int .i64 (0), .int .i64 (0)] : Array Value)[1]? = some (.int .i64 0)); go_simp⟩) hHeld ?_
  refine tkS (i := 11) (oi := ⟨some 96, Op.fieldAddr 81 (Operand.tmp 95) 2, 0, _, _, none⟩) (v := .pointer (some ⟨g, 2, none⟩)) rfl (Or.inl ⟨by rfl, fun w hS => by have q0 := hS.c 0 (by rfl : (#[.int .i64 (0), .int .i64 (0)] : Array Value)[0]? = some (.int .i64 0)); have q1 := hS.c 1 (by rfl : (#[.int .i64 (0), .int .i64 (0)] : Array Value)[1]? = some (.int .i64 0)); go_simp⟩) hHeld ?_
  refine wpAnyH_ready (rs := [12]) (by kernel_rfl) (by simp) ?_
  refine AllReadyH.cons (o := ⟨none, Op.store 3 (Operand.tmp 96) (Operand.tmp 88), 0, _, _, none⟩) rfl (fun K hK => ?_) AllReadyH.nil
  rw [if_pos (by rfl)]
  have f_o := HJ12.out.frozen 2
  have cl : w11.drew.cell? ⟨g, 2, none⟩ = some (.int .i64 (-1)) := HJ12.out.c 2 rfl
  refine wp_cellS (w11.drew.setCell ⟨g, 2, none⟩ (.int .i64 0)) (by go_simp) ?_
  clear f_o cl
  have HJ13 : Keep (Blk (w11.drew.setCell ⟨g, 2, none⟩ (.int .i64 0)) g 81 (jA d (.slice a10 n10 c10) 0 sz la false)) := ⟨HJ12.out.set 2 _⟩
  have HP13 : Keep (Blk (w11.drew.setCell ⟨g, 2, none⟩ (.int .i64 0)) q 88 #[.int .i64 (0), .int .i64 (0)]) := ⟨HP12.out.set_ne (fun e => by have := hqw.out; have := HJ.out.lt; omega) _⟩
  have G13 : Keep (Grown w11 (w11.drew.setCell ⟨g, 2, none⟩ (.int .i64 0)) fun k => k = g) := ⟨(Grown.refl w11 (fun k => k = g)).drew.trans (Grown.setCell w11.drew g 2 _ fun _ => rfl)⟩
  generalize w11.drew.setCell ⟨g, 2, none⟩ (.int .i64 0) = w13 at *
  refine hK _ _ HP13.out fun hA12 => ?_
  clear hK
  simp only [Act.put, pqA, pqB, pqC]
  refine tkS (i := 13) (oi := ⟨some 97, Op.nilCheck (Operand.tmp 86), 0, _, _, none⟩) (v := .pointer (some ⟨g, 0, none⟩)) rfl (Or.inl ⟨by rfl, fun w hS => by have q0 := hS.c 0 (by rfl : (#[.int .i64 (0), .int .i64 (0)] : Array Value)[0]? = some (.int .i64 0)); have q1 := hS.c 1 (by rfl : (#[.int .i64 (0), .int .i64 (0)] : Array Value)[1]? = some (.int .i64 0)); go_simp⟩) hA12 ?_
  refine tkS (i := 14) (oi := ⟨some 98, Op.fieldAddr 81 (Operand.tmp 97) 3, 0, _, _, none⟩) (v := .pointer (some ⟨g, 3, none⟩)) rfl (Or.inl ⟨by rfl, fun w hS => by have q0 := hS.c 0 (by rfl : (#[.int .i64 (0), .int .i64 (0)] : Array Value)[0]? = some (.int .i64 0)); have q1 := hS.c 1 (by rfl : (#[.int .i64 (0), .int .i64 (0)] : Array Value)[1]? = some (.int .i64 0)); go_simp⟩) hA12 ?_
  refine wpAnyH_ready (rs := [15]) (by kernel_rfl) (by simp) ?_
  refine AllReadyH.cons (o := ⟨none, Op.store 3 (Operand.tmp 98) (Operand.tmp 94), 0, _, _, none⟩) rfl (fun K hK => ?_) AllReadyH.nil
  rw [if_pos (by rfl)]
  have f_o := HJ13.out.frozen 3
  have cl : w13.cell? ⟨g, 3, none⟩ = some (.int .i64 sz) := HJ13.out.c 3 rfl
  refine wp_cellS (w13.setCell ⟨g, 3, none⟩ (.int .i64 (16 + (l.length : Int)))) (by go_simp) ?_
  clear f_o cl
  have HJ14 : Keep (Blk (w13.setCell ⟨g, 3, none⟩ (.int .i64 (16 + (l.length : Int)))) g 81 (jA d (.slice a10 n10 c10) 0 (16 + (l.length : Int)) la false)) := ⟨HJ13.out.set 3 _⟩
  have HP14 : Keep (Blk (w13.setCell ⟨g, 3, none⟩ (.int .i64 (16 + (l.length : Int)))) q 88 #[.int .i64 (0), .int .i64 (0)]) := ⟨HP13.out.set_ne (fun e => by have := hqw.out; have := HJ.out.lt; omega) _⟩
  have G14 : Keep (Grown w11 (w13.setCell ⟨g, 3, none⟩ (.int .i64 (16 + (l.length : Int)))) fun k => k = g) := ⟨G13.out.trans (Grown.setCell w13 g 3 _ fun _ => rfl)⟩
  have HJ11t : Keep (Typ w11 g 81) := ⟨HJ11.out.typ⟩
  clear HJ12 HP12 HJ13 HP13 HJ11 hwl hw16
  generalize w13.setCell ⟨g, 3, none⟩ (.int .i64 (16 + (l.length : Int))) = w14 at *
  refine hK _ _ HP14.out fun hA13 => ?_
  clear hK
  have f_o := HJ14.out.frozen 4
  have cl : w14.cell? ⟨g, 4, none⟩ = some (.bool la) := HJ14.out.c 4 rfl
  simp only [Act.put, pqA, pqB, pqC]
  refine wpAnyH_done (by kernel_rfl) ?_ _
  refine hK17 _ _ ?_
  refine wp_seq_k fun K18 hK18 => rgn ?_
  refine VlS (.pointer (some ⟨g, 0, none⟩)) ?_
  refine VlS (.pointer (some ⟨g, 0, none⟩)) ?_
  refine VlS (.pointer (some ⟨g, 4, none⟩)) ?_
  refine WL.cell (by kernel_rfl) (w14.setCell ⟨g, 4, none⟩ (.bool true)) (by go_simp) ?_
  clear f_o cl
  have HJ15 : Keep (Blk (w14.setCell ⟨g, 4, none⟩ (.bool true)) g 81 (jA d (.slice a10 n10 c10) 0 (16 + (l.length : Int)) true false)) := ⟨HJ14.out.set 4 _⟩
  have G15 : Keep (Grown w11 (w14.setCell ⟨g, 4, none⟩ (.bool true)) fun k => k = g) := ⟨G14.out.trans (Grown.setCell w14 g 4 _ fun _ => rfl)⟩
  clear HJ14 G14
  generalize w14.setCell ⟨g, 4, none⟩ (.bool true) = w15 at *
  simp only [Act.put]
  refine WL.nil (hK18 _ _ ?_)
  refine wp_seq_k fun K19 hK19 => rgn ?_
  refine VlS (.int .i64 0) ?_
  refine WL.nil (hK19 _ _ ?_)
  refine wp_ret ?_
  go_ret
  refine ⟨rfl, .slice a10 n10 c10, vf', cs', HJ15.out, HO11.out.grown G15.out fun k hk e => ?_, ?_, GW11.out.next G15.out fun k _ e => .inr (.inl e), N7.out, M10.out⟩
  ·subst e; rcases M10.out _ hk with h | h; exact HPg.out _ h rfl; have := HJ.out.lt; omega
  ·rw [hnn.out] at HD11; exact HD11.out.grown G15.out fun k hk e => by subst e; have hj := HJ11t.out; rcases hk with h | h | h <;> (have := h.one hj; revert this; decide)
 ·refine wp_bs 79 1 _ rfl #[(0, .agg #[.int .i64 (0), .int .i64 (0)])] (by simp [Act.eval]) _ _ (bsP 0 0 w8) ?_
  have hbx := below_new w8 (.cells #[.int .i64 (0), .int .i64 (0)] 88)
  have HN9 := Keep.mk (Blk.new w8 88 #[.int .i64 (0), .int .i64 (0)])
  have HJ9 := Keep.mk (HJ8.out.below hbx HJ8.out.lt)
  have HP9 := Keep.mk (HP8.out.below hbx HP8.out.lt)
  have HO9 := Keep.mk (HO8.out.grown (Grown.below (S := fun _ => False) hbx) fun _ _ h => h)
  have HD9 := Keep.mk (HD8.out.below hbx)
  have GW9 : Keep (Grown w (w8.alloc (.cells #[.int .i64 (0), .int .i64 (0)] 88)) fun k => k = p) := ⟨GW8.out.trans (Grown.below hbx)⟩
  clear hbx
  generalize w8.alloc (.cells #[.int .i64 (0), .int .i64 (0)] 88) = w9 at *
  obtain ⟨g9, hg9⟩ : ∃ p, Keep (p = w8.heap.size) := ⟨_, ⟨rfl⟩⟩
  rw [← hg9.out] at HN9 ⊢
  refine hK _ _ (HP9.out) fun hB9 => ?_
  clear hK
  simp only [Act.put, pqA, pqB, pqC]
  refine wpAnyH_ready (rs := [4]) (by kernel_rfl) (by simp) ?_
  refine AllReadyH.cons (o := ⟨some 79, Op.load 79 (Operand.tmp 78), 79, _, _, none⟩) rfl (fun K hK => ?_) AllReadyH.nil
  rw [if_pos (by rfl)]
  have cl : w9.cell? ⟨g, 1, none⟩ = some (.slice pa pl.length pc) := HJ9.out.c 1 rfl
  refine wp_val (.slice pa pl.length pc) (by go_simp) ?_
  clear cl
  refine hK _ _ (HP9.out) fun hL9 => ?_
  clear hK
  simp only [Act.put, pqA, pqB, pqC]
  refine wpAnyH_ready (rs := [7]) (by kernel_rfl) (by simp) ?_
  refine AllReadyH.cons (o := ⟨some 82, Op.call { callee := Callee.builtin Builtin.append, args := #[Operand.tmp 79, Operand.tmp 81], argTypes := #[79, 79] }, 79, _, _, none⟩) rfl (fun K hK => ?_) AllReadyH.nil
  rw [if_pos (by rfl)]
  refine wp_appP (.tmp 79) (.tmp 81) rfl (.slice pa pl.length pc) pl g9 1 (0, 0) rfl rfl HO9.out HN9.out (by have := HPn.out; omega) fun v10 w10 h1 h2 h3 => ?_
  have HO10 := Keep.mk h1
  have M10 : Keep (∀ k, v10.ownBlock = some k → (Value.slice pa pl.length pc).ownBlock = some k ∨ w.heap.size ≤ k) := ⟨fun k hk => by rcases h3 with e | ⟨j, e, hj⟩ <;> rw [hk] at e; exact .inl e.symm; right; have := Option.some.inj e; have := GW9.out.size; omega⟩
  have HJ10 : Keep (Blk w10 g 81 (jA d (.slice pa pl.length pc) (-1) sz la false)) := ⟨h2.blk HJ9.out fun e => HPg.out g e rfl⟩
  have HP10 : Keep (Blk w10 q 88 #[.int .i64 (0), .int .i64 (0)]) := ⟨h2.blk HP9.out fun e => by have := HPw.out q e; have := hqw.out; omega⟩
  have HD10 : Keep (DskAt w10 p vf' cs' (D.appNew i nn (hl 16 (hdF l) ++ l))) := ⟨HD9.out.grown h2 fun k hk e => by have ht := HO9.out.typ e; rcases hk with h | h | h <;> (have := h.one ht; revert this; decide)⟩
  have GW10 : Keep (Grown w w10 fun k => k = p ∨ k = g ∨ (Value.slice pa pl.length pc).ownBlock = some k) := ⟨(GW9.out.mono fun k _ e => .inl e).next h2 fun k _ e => .inr (.inr e)⟩
  clear h1 h2 h3
  obtain ⟨a10, c10, e10⟩ := HO10.out.sl
  subst e10
  obtain ⟨n10, hn10⟩ : ∃ q, Keep (q = (pl ++ [(0, 0)]).length) := ⟨_, ⟨rfl⟩⟩
  rw [← hn10.out] at HO10 M10 ⊢
  refine hK _ _ (HP10.out) fun hA10 => ?_
  clear hK
  simp only [Act.put, pqA, pqB, pqC]
  refine tkS (i := 8) (oi := ⟨some 83, Op.nilCheck (Operand.tmp 75), 0, _, _, none⟩) (v := .pointer (some ⟨g, 0, none⟩)) rfl (Or.inl ⟨by rfl, fun w hS => by go_simp⟩) hA10 ?_
  refine tkS (i := 9) (oi := ⟨some 84, Op.fieldAddr 81 (Operand.tmp 83) 1, 0, _, _, none⟩) (v := .pointer (some ⟨g, 1, none⟩)) rfl (Or.inl ⟨by rfl, fun w hS => by go_simp⟩) hA10 ?_
  refine wpAnyH_ready (rs := [10]) (by kernel_rfl) (by simp) ?_
  refine AllReadyH.cons (o := ⟨none, Op.store 79 (Operand.tmp 84) (Operand.tmp 82), 0, _, _, none⟩) rfl (fun K hK => ?_) AllReadyH.nil
  rw [if_pos (by rfl)]
  have f_o := HJ10.out.frozen 1
  have cl : w10.cell? ⟨g, 1, none⟩ = some (.slice pa pl.length pc) := HJ10.out.c 1 rfl
  refine wp_cellS (w10.setCell ⟨g, 1, none⟩ (.slice a10 n10 c10)) (by go_simp) ?_
  clear f_o cl
  have HJ11 : Keep (Blk (w10.setCell ⟨g, 1, none⟩ (.slice a10 n10 c10)) g 81 (jA d (.slice a10 n10 c10) (-1) sz la false)) := ⟨HJ10.out.set 1 (.slice a10 n10 c10)⟩
  have hgs : Grown w10 (w10.setCell ⟨g, 1, none⟩ (.slice a10 n10 c10)) fun k => k = g := Grown.setCell w10 g 1 _ fun _ => rfl
  have HP11 : Keep (Blk (w10.setCell ⟨g, 1, none⟩ (.slice a10 n10 c10)) q 88 #[.int .i64 (0), .int .i64 (0)]) := ⟨hgs.blk HP10.out fun e => by have := hqw.out; have := HJ.out.lt; omega⟩
  have HO11 : Keep (OwnP (w10.setCell ⟨g, 1, none⟩ (.slice a10 n10 c10)) (.slice a10 n10 c10) (pl ++ [(0, 0)])) := ⟨HO10.out.grown hgs fun k hk e => by subst e; rcases M10.out _ hk with h | h; exact HPg.out _ h rfl; have := HJ.out.lt; omega⟩
  have HD11 : Keep (DskAt (w10.setCell ⟨g, 1, none⟩ (.slice a10 n10 c10)) p vf' cs' (D.appNew i nn (hl 16 (hdF l) ++ l))) := ⟨HD10.out.grown hgs fun k hk e => by subst e; have hj := HJ10.out.typ; rcases hk with h | h | h <;> (have := h.one hj; revert this; decide)⟩
  have GW11 : Keep (Grown w (w10.setCell ⟨g, 1, none⟩ (.slice a10 n10 c10)) fun k => k = p ∨ k = g ∨ (Value.slice pa pl.length pc).ownBlock = some k) := ⟨GW10.out.next hgs fun k _ e => .inr (.inl e)⟩
  clear hgs HJ10 HP10 HO10 HD10 GW10
  generalize w10.setCell ⟨g, 1, none⟩ (.slice a10 n10 c10) = w11 at *
  refine hK _ _ (HP11.out) fun hS11 => ?_
  clear hK
  simp only [Act.put, pqA, pqB, pqC]
  refine wpAnyH_done (by kernel_rfl) ?_ _
  refine hK16 _ _ ?_
  refine wp_seq_k fun K20 hK20 => ?_
  have HP12 : Keep (Blk w11.drew q 88 #[.int .i64 (0), .int .i64 (0)]) := ⟨HP11.out.drew⟩
  have HJ12 : Keep (Blk w11.drew g 81 (jA d (.slice a10 n10 c10) (-1) sz la false)) := ⟨HJ11.out.drew⟩
  have hwl : IntKind.i64.wrap (16 + (l.length : Int)) = 16 + (l.length : Int) := by rw [IntKind.wrap_i64]; have := HL.out; omega
  have hw16 : IntKind.i64.wrap 16 = 16 := by rw [IntKind.wrap_i64]; rfl
  refine wp_region_held_drew (S := fun wx => Blk wx q 88 #[.int .i64 (0), .int .i64 (0)]) (by kernel_rfl) (HP12.out) (fun hHeld => ?_)
  refine tkS (i := 0) (oi := ⟨some 85, Op.move (Operand.tmp 0), 56, _, _, none⟩) (v := .pointer (some ⟨g, 0, none⟩)) rfl (Or.inl ⟨by rfl, fun w hS => by have q0 := hS.c 0 (by rfl : (#[.int .i64 (0), .int .i64 (0)] : Array Value)[0]? = some (.int .i64 0)); have q1 := hS.c 1 (by rfl : (#[.int .i64 (0), .int .i64 (0)] : Array Value)[1]? = some (.int .i64 0)); go_simp⟩) hHeld ?_
  refine tkS (i := 1) (oi := ⟨some 86, Op.move (Operand.tmp 0), 56, _, _, none⟩) (v := .pointer (some ⟨g, 0, none⟩)) rfl (Or.inl ⟨by rfl, fun w hS => by have q0 := hS.c 0 (by rfl : (#[.int .i64 (0), .int .i64 (0)] : Array Value)[0]? = some (.int .i64 0)); have q1 := hS.c 1 (by rfl : (#[.int .i64 (0), .int .i64 (0)] : Array Value)[1]? = some (.int .i64 0)); go_simp⟩) hHeld ?_
  refine tkS (i := 2) (oi := ⟨some 87, Op.fieldAddr 88 (Operand.tmp 5) 0, 0, _, _, none⟩) (v := .pointer (some ⟨q, 0, none⟩)) rfl (Or.inl ⟨by rfl, fun w hS => by have q0 := hS.c 0 (by rfl : (#[.int .i64 (0), .int .i64 (0)] : Array Value)[0]? = some (.int .i64 0)); have q1 := hS.c 1 (by rfl : (#[.int .i64 (0), .int .i64 (0)] : Array Value)[1]? = some (.int .i64 0)); go_simp⟩) hHeld ?_
  refine tkS (i := 3) (oi := ⟨some 88, Op.load 3 (Operand.tmp 87), 3, _, _, none⟩) (v := .int .i64 0) rfl (Or.inl ⟨by rfl, fun w hS => by have q0 := hS.c 0 (by rfl : (#[.int .i64 (0), .int .i64 (0)] : Array Value)[0]? = some (.int .i64 0)); have q1 := hS.c 1 (by rfl : (#[.int .i64 (0), .int .i64 (0)] : Array Value)[1]? = some (.int .i64 0)); go_simp⟩) hHeld ?_
  refine tkS (i := 4) (oi := ⟨some 89, Op.fieldAddr 88 (Operand.tmp 5) 1, 0, _, _, none⟩) (v := .pointer (some ⟨q, 1, none⟩)) rfl (Or.inl ⟨by rfl, fun w hS => by have q0 := hS.c 0 (by rfl : (#[.int .i64 (0), .int .i64 (0)] : Array Value)[0]? = some (.int .i64 0)); have q1 := hS.c 1 (by rfl : (#[.int .i64 (0), .int .i64 (0)] : Array Value)[1]? = some (.int .i64 0)); go_simp⟩) hHeld ?_
  refine tkS (i := 5) (oi := ⟨some 90, Op.load 3 (Operand.tmp 89), 3, _, _, none⟩) (v := .int .i64 0) rfl (Or.inl ⟨by rfl, fun w hS => by have q0 := hS.c 0 (by rfl : (#[.int .i64 (0), .int .i64 (0)] : Array Value)[0]? = some (.int .i64 0)); have q1 := hS.c 1 (by rfl : (#[.int .i64 (0), .int .i64 (0)] : Array Value)[1]? = some (.int .i64 0)); go_simp⟩) hHeld ?_
  refine tkS (i := 6) (oi := ⟨some 91, Op.binOp BinOp.add 3 (Operand.tmp 90) (Operand.const (Value.int IntKind.i64 16)) 3, 3, _, _, none⟩) (v := .int .i64 16) rfl (Or.inl ⟨by rfl, fun w hS => by have q0 := hS.c 0 (by rfl : (#[.int .i64 (0), .int .i64 (0)] : Array Value)[0]? = some (.int .i64 0)); have q1 := hS.c 1 (by rfl : (#[.int .i64 (0), .int .i64 (0)] : Array Value)[1]? = some (.int .i64 0)); go_simp⟩) hHeld ?_
  refine tkS (i := 7) (oi := ⟨some 92, Op.move (Operand.tmp 1), 41, _, _, none⟩) (v := .slice ba l.length bc) rfl (Or.inl ⟨by rfl, fun w hS => by have q0 := hS.c 0 (by rfl : (#[.int .i64 (0), .int .i64 (0)] : Array Value)[0]? = some (.int .i64 0)); have q1 := hS.c 1 (by rfl : (#[.int .i64 (0), .int .i64 (0)] : Array Value)[1]? = some (.int .i64 0)); go_simp⟩) hHeld ?_
  refine tkS (i := 8) (oi := ⟨some 93, Op.call { callee := Callee.builtin Builtin.len, args := #[Operand.tmp 92], argTypes := #[41] }, 3, _, _, none⟩) (v := .int .i64 (l.length : Int)) rfl (Or.inl ⟨by rfl, fun w hS => by have q0 := hS.c 0 (by rfl : (#[.int .i64 (0), .int .i64 (0)] : Array Value)[0]? = some (.int .i64 0)); have q1 := hS.c 1 (by rfl : (#[.int .i64 (0), .int .i64 (0)] : Array Value)[1]? = some (.int .i64 0)); go_simp⟩) hHeld ?_
  refine tkS (i := 9) (oi := ⟨some 94, Op.binOp BinOp.add 3 (Operand.tmp 91) (Operand.tmp 93) 3, 3, _, _, none⟩) (v := .int .i64 (16 + (l.length : Int))) rfl (Or.inl ⟨by rfl, fun w hS => by have q0 := hS.c 0 (by rfl : (#[.int .i64 (0), .int .i64 (0)] : Array Value)[0]? = some (.int .i64 0)); have q1 := hS.c 1 (by rfl : (#[.int .i64 (0), .int .i64 (0)] : Array Value)[1]? = some (.int .i64 0)); go_simp⟩) hHeld ?_
  refine tkS (i := 10) (oi := ⟨some 95, Op.nilCheck (Operand.tmp 85), 0, _, _, none⟩) (v := .pointer (some ⟨g, 0, none⟩)) rfl (Or.inl ⟨by rfl, fun w hS => by have q0 := hS.c 0 (by rfl : (#[.int .i64 (0), .int .i64 (0)] : Array Value)[0]? = some (.int .i64 0)); have q1 := hS.c 1 (by rfl : (#[.int .i64 (0), .int .i64 (0)] : Array Value)[1]? = some (.int .i64 0)); go_simp⟩) hHeld ?_
  refine tkS (i := 11) (oi := ⟨some 96, Op.fieldAddr 81 (Operand.tmp 95) 2, 0, _, _, none⟩) (v := .pointer (some ⟨g, 2, none⟩)) rfl (Or.inl ⟨by rfl, fun w hS => by have q0 := hS.c 0 (by rfl : (#[.int .i64 (0), .int .i64 (0)] : Array Value)[0]? = some (.int .i64 0)); have q1 := hS.c 1 (by rfl : (#[.int .i64 (0), .int .i64 (0)] : Array Value)[1]? = some (.int .i64 0)); go_simp⟩) hHeld ?_
  refine wpAnyH_ready (rs := [12]) (by kernel_rfl) (by simp) ?_
  refine AllReadyH.cons (o := ⟨none, Op.store 3 (Operand.tmp 96) (Operand.tmp 88), 0, _, _, none⟩) rfl (fun K hK => ?_) AllReadyH.nil
  rw [if_pos (by rfl)]
  have f_o := HJ12.out.frozen 2
  have cl : w11.drew.cell? ⟨g, 2, none⟩ = some (.int .i64 (-1)) := HJ12.out.c 2 rfl
  refine wp_cellS (w11.drew.setCell ⟨g, 2, none⟩ (.int .i64 0)) (by go_simp) ?_
  clear f_o cl
  have HJ13 : Keep (Blk (w11.drew.setCell ⟨g, 2, none⟩ (.int .i64 0)) g 81 (jA d (.slice a10 n10 c10) 0 sz la false)) := ⟨HJ12.out.set 2 _⟩
  have HP13 : Keep (Blk (w11.drew.setCell ⟨g, 2, none⟩ (.int .i64 0)) q 88 #[.int .i64 (0), .int .i64 (0)]) := ⟨HP12.out.set_ne (fun e => by have := hqw.out; have := HJ.out.lt; omega) _⟩
  have G13 : Keep (Grown w11 (w11.drew.setCell ⟨g, 2, none⟩ (.int .i64 0)) fun k => k = g) := ⟨(Grown.refl w11 (fun k => k = g)).drew.trans (Grown.setCell w11.drew g 2 _ fun _ => rfl)⟩
  generalize w11.drew.setCell ⟨g, 2, none⟩ (.int .i64 0) = w13 at *
  refine hK _ _ HP13.out fun hA12 => ?_
  clear hK
  simp only [Act.put, pqA, pqB, pqC]
  refine tkS (i := 13) (oi := ⟨some 97, Op.nilCheck (Operand.tmp 86), 0, _, _, none⟩) (v := .pointer (some ⟨g, 0, none⟩)) rfl (Or.inl ⟨by rfl, fun w hS => by have q0 := hS.c 0 (by rfl : (#[.int .i64 (0), .int .i64 (0)] : Array Value)[0]? = some (.int .i64 0)); have q1 := hS.c 1 (by rfl : (#[.int .i64 (0), .int .i64 (0)] : Array Value)[1]? = some (.int .i64 0)); go_simp⟩) hA12 ?_
  refine tkS (i := 14) (oi := ⟨some 98, Op.fieldAddr 81 (Operand.tmp 97) 3, 0, _, _, none⟩) (v := .pointer (some ⟨g, 3, none⟩)) rfl (Or.inl ⟨by rfl, fun w hS => by have q0 := hS.c 0 (by rfl : (#[.int .i64 (0), .int .i64 (0)] : Array Value)[0]? = some (.int .i64 0)); have q1 := hS.c 1 (by rfl : (#[.int .i64 (0), .int .i64 (0)] : Array Value)[1]? = some (.int .i64 0)); go_simp⟩) hA12 ?_
  refine wpAnyH_ready (rs := [15]) (by kernel_rfl) (by simp) ?_
  refine AllReadyH.cons (o := ⟨none, Op.store 3 (Operand.tmp 98) (Operand.tmp 94), 0, _, _, none⟩) rfl (fun K hK => ?_) AllReadyH.nil
  rw [if_pos (by rfl)]
  have f_o := HJ13.out.frozen 3
  have cl : w13.cell? ⟨g, 3, none⟩ = some (.int .i64 sz) := HJ13.out.c 3 rfl
  refine wp_cellS (w13.setCell ⟨g, 3, none⟩ (.int .i64 (16 + (l.length : Int)))) (by go_simp) ?_
  clear f_o cl
  have HJ14 : Keep (Blk (w13.setCell ⟨g, 3, none⟩ (.int .i64 (16 + (l.length : Int)))) g 81 (jA d (.slice a10 n10 c10) 0 (16 + (l.length : Int)) la false)) := ⟨HJ13.out.set 3 _⟩
  have HP14 : Keep (Blk (w13.setCell ⟨g, 3, none⟩ (.int .i64 (16 + (l.length : Int)))) q 88 #[.int .i64 (0), .int .i64 (0)]) := ⟨HP13.out.set_ne (fun e => by have := hqw.out; have := HJ.out.lt; omega) _⟩
  have G14 : Keep (Grown w11 (w13.setCell ⟨g, 3, none⟩ (.int .i64 (16 + (l.length : Int)))) fun k => k = g) := ⟨G13.out.trans (Grown.setCell w13 g 3 _ fun _ => rfl)⟩
  have HJ11t : Keep (Typ w11 g 81) := ⟨HJ11.out.typ⟩
  clear HJ12 HP12 HJ13 HP13 HJ11 hwl hw16
  generalize w13.setCell ⟨g, 3, none⟩ (.int .i64 (16 + (l.length : Int))) = w14 at *
  refine hK _ _ HP14.out fun hA13 => ?_
  clear hK
  have f_o := HJ14.out.frozen 4
  have cl : w14.cell? ⟨g, 4, none⟩ = some (.bool la) := HJ14.out.c 4 rfl
  simp only [Act.put, pqA, pqB, pqC]
  refine wpAnyH_done (by kernel_rfl) ?_ _
  refine hK20 _ _ ?_
  refine wp_seq_k fun K21 hK21 => rgn ?_
  refine VlS (.pointer (some ⟨g, 0, none⟩)) ?_
  refine VlS (.pointer (some ⟨g, 0, none⟩)) ?_
  refine VlS (.pointer (some ⟨g, 4, none⟩)) ?_
  refine WL.cell (by kernel_rfl) (w14.setCell ⟨g, 4, none⟩ (.bool true)) (by go_simp) ?_
  clear f_o cl
  have HJ15 : Keep (Blk (w14.setCell ⟨g, 4, none⟩ (.bool true)) g 81 (jA d (.slice a10 n10 c10) 0 (16 + (l.length : Int)) true false)) := ⟨HJ14.out.set 4 _⟩
  have G15 : Keep (Grown w11 (w14.setCell ⟨g, 4, none⟩ (.bool true)) fun k => k = g) := ⟨G14.out.trans (Grown.setCell w14 g 4 _ fun _ => rfl)⟩
  clear HJ14 G14
  generalize w14.setCell ⟨g, 4, none⟩ (.bool true) = w15 at *
  simp only [Act.put]
  refine WL.nil (hK21 _ _ ?_)
  refine wp_seq_k fun K22 hK22 => rgn ?_
  refine VlS (.int .i64 0) ?_
  refine WL.nil (hK22 _ _ ?_)
  refine wp_ret ?_
  go_ret
  refine ⟨rfl, .slice a10 n10 c10, vf', cs', HJ15.out, HO11.out.grown G15.out fun k hk e => ?_, ?_, GW11.out.next G15.out fun k _ e => .inr (.inl e), N7.out, M10.out⟩
  ·subst e; rcases M10.out _ hk with h | h; exact HPg.out _ h rfl; have := HJ.out.lt; omega
  ·rw [hnn.out] at HD11; exact HD11.out.grown G15.out fun k hk e => by subst e; have hj := HJ11t.out; rcases hk with h | h | h <;> (have := h.one hj; revert this; decide)
end Go.Proofs.YtlggejehaonkcaaDoor
namespace Go.Proofs.YtlggejehaonkcaaDoor
open Go.RowKit
set_option maxRecDepth 8000 in
theorem jsync_idle (g : Nat) (w : World) (c5 : w.cell? ⟨g, 5, none⟩ = some (.bool false)) (c4 : w.cell? ⟨g, 4, none⟩ = some (.bool false)) : Calls Tryd.prog 22 #[ptr g] w fun e w' => e = .returned (.int .i64 0) ∧ w' = w := by
 go_enter Tryd.func22, Tryd.ntmps22
 refine wp_seq_k fun K1 hK1 => rgn ?_
 refine VlS (.int .i64 0) ?_
 refine WL.nil (hK1 _ _ ?_)
 refine wp_seq_k fun K2 hK2 => ?_
 refine wp_seq_k fun K3 hK3 => rgn ?_
 refine VlS (.pointer (some ⟨g, 0, none⟩)) ?_
 refine VlS (.pointer (some ⟨g, 0, none⟩)) ?_
 refine VlS (.pointer (some ⟨g, 5, none⟩)) ?_
 refine VlS (.bool false) ?_
 refine WL.nil (hK3 _ _ ?_)
 refine wp_cond_false rfl ?_
 refine wp_skip ?_
 refine hK2 _ _ ?_
 refine wp_seq_k fun K4 hK4 => ?_
 refine wp_seq_k fun K5 hK5 => rgn ?_
 refine VlS (.pointer (some ⟨g, 0, none⟩)) ?_
 refine VlS (.pointer (some ⟨g, 0, none⟩)) ?_
 refine VlS (.pointer (some ⟨g, 4, none⟩)) ?_
 refine VlS (.bool false) ?_
 refine VlS (.bool true) ?_
 refine WL.nil (hK5 _ _ ?_)
 refine wp_cond_true rfl ?_
 refine wp_seq_k fun K6 hK6 => rgn ?_
 refine VlS (.int .i64 0) ?_
 refine WL.nil (hK6 _ _ ?_)
 refine wp_ret ?_
 go_ret
 exact ⟨rfl, rfl⟩
theorem yieldsIf_bld {P : Program} {ops : Array Oper} {S : World → Prop} {op : Oper} {a : Act} (hw : Region.wanted op (yielded ops a.tmps) = true) (t : TypeId) (parts : Array (Nat × Operand)) (ho : op.op = .build t parts)
  (vs : Array (Nat × Value)) (hv : (parts.map fun (i, x) => (i, a.eval x)) = vs) (v : Value) (hr : ∀ w : World, (Next.value <$> Instr.build t vs).run P w = .ok (.value v) w) : YieldsIf P ops S op v a :=
 .inl ⟨hw, fun w _ => by unfold execOp; simp only [ho, hv]; exact hr w⟩
end Go.Proofs.YtlggejehaonkcaaDoor
namespace Go.Proofs.YtlggejehaonkcaaDoor
end Go.Proofs.YtlggejehaonkcaaDoor
namespace Go.Proofs.YtlggejehaonkcaaDoor
open Go.RowKit
set_option linter.unusedSimpArgs false
set_option linter.unusedVariables false

theorem Tryd.in7 (w : World) (vs : Array Value) : (callFunc 7 vs).run Tryd.prog w = .ok (.enter 7 vs) w := by kernel_rfl
def PF.app (f : PF) (l : List Int) : PF := { f with bs := f.bs ++ l }
def DV.appIs (D : DV) (i : Nat) (f : PF) (l : List Int) : DV := DV.act { D with fs := D.fs.set i (f.app l), used := D.used + (l.length : Int) }
theorem dsk_app {w w9 : World} {p g n7 k7 i : Nat} {cs : List FC} {D : DV} {x : FC} {f : PF} {l : List Int} {v9 : Value} (h : DskAt w p (.slice (some ⟨g, 0, none⟩) n7 k7) cs D) (hx : cs[i]? = some x) (hf : D.fs[i]? = some f) (ha : AppPost w.drew x.b (f.bs ++ l) v9 w9) :
  DskAt (w9.setCell ⟨g, i * 3 + 1, none⟩ v9) p (.slice (some ⟨g, 0, none⟩) n7 k7) (cs.set i { x with b := v9 }) { D with fs := D.fs.set i (f.app l) } := by
 have hxf := h.fcs.each i x f hx hf
 have g1 : Grown w w9 fun k => x.b.ownBlock = some k := (Grown.refl w _).drew.trans ha.grown
 have htx : ∀ k, x.b.ownBlock = some k → Typ w k 5 := fun k hk => hxf.2.2.typ hk
 have hg : Grown w9 (w9.setCell ⟨g, i * 3 + 1, none⟩ v9) fun k => k = g := Grown.setCell w9 g _ _ fun _ => rfl
 have ho9 : OwnF w9 (.slice (some ⟨g, 0, none⟩) n7 k7) cs := h.own.grown g1 fun k hk e => by have := (htx k e).one (h.own.typ hk); revert this; decide
 have ht : Typ w9 g 72 := ho9.typ rfl
 have hb9 : Blk w9 p 51 (stA (.slice (some ⟨g, 0, none⟩) n7 k7) D) := g1.blk h.blk fun e => by have := (htx p e).one h.blk.typ; revert this; decide
 have hl : i < cs.length := (List.getElem?_eq_some_iff.1 hx).1
 refine ⟨hg.blk hb9 fun e => ?_, ho9.set hx (by omega) rfl, ?_⟩
 ·subst e; have := ht.one hb9.typ; revert this; decide
 ·refine h.fcs.set hl ⟨hxf.1, hxf.2.1, ?_⟩ (fun j y z hj hy hz => ?_) (fun j y k hj hy hk hyk => ?_)
  ·exact ha.1.grown hg fun k hk e => by subst e; have := (ha.1.typ hk).one ht; revert this; decide
  ·have h1 := h.fcs.each j y z hy hz
   refine ⟨h1.1, h1.2.1, (h1.2.2.grown g1 fun k hk e => ?_).grown hg fun k hk e => ?_⟩
   ·exact h.fcs.apart j i y x hy hx hj k hk e
   ·subst e; have := ((h1.2.2.grown g1 fun k hk e => h.fcs.apart j i y x hy hx hj k hk e).typ hk).one ht; revert this; decide
  ·have hjl := (List.getElem?_eq_some_iff.1 hy).1
   rw [h.fcs.len] at hjl
   have h2 := (h.fcs.each j y _ hy (List.getElem?_eq_getElem hjl)).2.2.lt k hyk
   rcases ha.moved with e | ⟨q, e, hq⟩
   ·rw [hk] at e; exact h.fcs.apart j i y x hy hx hj k hyk e.symm
   ·rw [hk] at e; have := Option.some.inj e; have : w.heap.size ≤ q := hq; omega
theorem dskS_app {w w9 : World} {p : Nat} {vf : Value} {cs : List FC} {i : Nat} {x : FC} {m : List Int} {v9 : Value} (hx : cs[i]? = some x) (ha : AppPost w x.b m v9 w9) {k : Nat} (h : DskS p vf (cs.set i { x with b := v9 }) k) : DskS p vf cs k ∨ w.heap.size ≤ k := by
 rcases h with h | h | ⟨j, y, hy, hk⟩
 ·exact .inl (.inl h)
 ·exact .inl (.inr (.inl h))
 ·by_cases e : i = j
  ·subst e
   rw [List.getElem?_set_self (List.getElem?_eq_some_iff.1 hx).1] at hy
   injection hy with hy
   subst hy
   rcases ha.moved with e | ⟨q, e, hq⟩
   ·exact .inl (.inr (.inr ⟨i, x, hx, by rw [← e]; exact hk⟩))
   ·right; have hk : v9.ownBlock = some k := hk; rw [hk] at e; have := Option.some.inj e; omega
  ·rw [List.getElem?_set_ne e] at hy
   exact .inl (.inr (.inr ⟨j, y, hy, hk⟩))
set_option maxRecDepth 8000 in
set_option maxHeartbeats 2000000 in
theorem app_is (d p i : Nat) (n : ByteArray) (v vf : Value) (l : List Int) (cs : List FC) (D : DV) (f : PF) (w : World) (hDk : Blk w d 53 #[ptr p]) (hD : DskAt w p vf cs D) (hO : D.out = false) (hRg : rgt n = true) (hF : fnd n D.fs 0 = (i, true)) (hFi : D.fs[i]? = some f) (hFl : (f.bs.length : Int) ≤ D.used) (hL : cs.length ≤ 256)
  (hU : 0 ≤ D.used ∧ 0 ≤ D.room ∧ D.room ≤ 70368744177664 ∧ (l.length : Int) ≤ D.room - D.used) (hA : 0 ≤ D.acts ∧ D.acts ≤ 4611686018427387904) (hFu : -9223372036854775808 < D.fuse ∧ D.fuse ≤ 9223372036854775807) (hR : RowAt w v l) :
  Calls Tryd.prog 35 #[ptr d, .string n, v] w fun e w' => e = .returned (.int .i64 (pw D)) ∧ ∃ vf' cs', DskAt w' p vf' cs' (D.appIs i f l) ∧ (Grown w w' (DskS p vf cs)) ∧ ∀ k, DskS p vf' cs' k → DskS p vf cs k ∨ w.heap.size ≤ k := by
 obtain ⟨va, vc, rfl⟩ := hD.own.sl
 obtain ⟨ba, bc, rfl⟩ := row_form hR
 have HDk := Keep.mk hDk
 have HD := Keep.mk hD
 have HO := Keep.mk hO
 have HRg := Keep.mk hRg
 have HF := Keep.mk hF
 have HFi := Keep.mk hFi
 have HFl := Keep.mk hFl
 have HL := Keep.mk hL
 have HU := Keep.mk hU
 have HA := Keep.mk hA
 have HFu := Keep.mk hFu
 have HR := Keep.mk hR
 clear hDk hD hO hRg hF hFi hFl hL hU hA hFu hR
 go_enter Tryd.func35, Tryd.ntmps35
 have cd := HDk.out.c 0 (by rfl : (#[ptr p] : Array Value)[0]? = some (ptr p))
 have c4 : w.cell? ⟨p, 4, none⟩ = some (.bool false) := by have h := HD.out.blk.c 4 (by rfl : (stA (.slice va cs.length vc) D)[4]? = some (.bool D.out)); rw [HO.out] at h; exact h
 refine wp_seq_k fun K1 hK1 => rgn ?_
 refine VlS (.int .i64 0) ?_
 refine WL.nil (hK1 _ _ ?_)
 refine wp_seq_k fun K2 hK2 => rgn ?_
 refine VlS (.pointer (some ⟨d, 0, none⟩)) ?_
 refine VlS (.pointer (some ⟨d, 0, none⟩)) ?_
 refine VlS (.pointer (some ⟨d, 0, none⟩)) ?_
 refine VlS (.pointer (some ⟨p, 0, none⟩)) ?_
 refine VlS (.pointer (some ⟨p, 0, none⟩)) ?_
 refine WL.nil (hK2 _ _ ?_)
 refine wp_seq_k fun K3 hK3 => ?_
 refine wp_seq_k fun K4 hK4 => rgn ?_
 refine VlS (.pointer (some ⟨p, 0, none⟩)) ?_
 refine VlS (.pointer (some ⟨p, 0, none⟩)) ?_
 refine VlS (.pointer (some ⟨p, 4, none⟩)) ?_
 refine VlS (.bool false) ?_
 refine WL.nil (hK4 _ _ ?_)
 refine wp_cond_false rfl ?_
 refine wp_skip ?_
 refine hK3 _ _ ?_
 refine wp_seq_k fun K5 hK5 => ?_
 refine wp_seq_k fun K6 hK6 => rgn ?_
 refine VlS (.string n) ?_
 clear cd c4
 have hrt := right_any n w
 rw [HRg.out] at hrt
 refine WL.callF (by kernel_rfl) 47 _ _ rfl Tryd.in47 #[.string n] (by simp [Act.eval]) ?_
 refine (hrt).mono ?_
 rintro e wz ⟨rfl, hz⟩
 refine ⟨_, rfl, ?_⟩
 subst hz
 clear hrt
 simp only [Act.put, pqA, pqB, pqC]
 refine VlS (.bool false) ?_
 refine WL.nil (hK6 _ _ ?_)
 refine wp_cond_false rfl ?_
 refine wp_skip ?_
 refine hK5 _ _ ?_
 refine wp_seq_k fun K7 hK7 => rgn ?_
 refine VlS (.pointer (some ⟨p, 0, none⟩)) ?_
 refine VlS (.string n) ?_
 have hfd := find_any p n _ cs D wz HD.out (by have := HL.out; omega)
 rw [HF.out] at hfd
 refine WL.callF (by kernel_rfl) 43 _ _ rfl Tryd.in43 #[ptr p, .string n] (by simp [Act.eval]) ?_
 refine (hfd).mono ?_
 rintro e w1 ⟨rfl, hb1⟩
 refine ⟨_, rfl, ?_⟩
 have HD1 := Keep.mk (HD.out.below hb1)
 have B1 := Keep.mk hb1
 clear hb1 hfd
 simp only [Act.put, pqA, pqB, pqC]
 refine VlS (.tuple #[.int .i64 (i : Int), .bool true]) ?_
 refine VlS (.int .i64 (i : Int)) ?_
 refine VlS (.bool true) ?_
 refine VlS (.int .i64 (i : Int)) ?_
 refine VlS (.bool true) ?_
 refine WL.nil (hK7 _ _ ?_)
 refine wp_seq_k fun K8 hK8 => ?_
 refine wp_seq_k fun K9 hK9 => rgn ?_
 refine VlS (.bool true) ?_
 refine VlS (.bool false) ?_
 refine VlS (.bool false) ?_
 refine SkS ?_
 refine SkS ?_
 refine SkS ?_
 refine SkS ?_
 refine SkS ?_
 refine SkS ?_
 refine VlS (.bool false) ?_
 refine WL.nil (hK9 _ _ ?_)
 refine wp_cond_false rfl ?_
 refine wp_skip ?_
 refine hK8 _ _ ?_
 refine wp_seq_k fun K10 hK10 => ?_
 refine wp_seq_k fun K11 hK11 => ?_
 have hS0 : Keep (w1.drew.cell? ⟨p, 1, none⟩ = some (.int .i64 D.room) ∧ w1.drew.cell? ⟨p, 2, none⟩ = some (.int .i64 D.used)) := ⟨HD1.out.blk.drew.c 1 rfl, HD1.out.blk.drew.c 2 rfl⟩
 have hwr : IntKind.i64.wrap (D.room - D.used) = D.room - D.used := by rw [IntKind.wrap_i64]; have := HU.out; omega
 have hle : ¬ D.room - D.used < (l.length : Int) := by have := HU.out; omega
 refine wp_region_held_drew (S := fun wx => wx.cell? ⟨p, 1, none⟩ = some (.int .i64 D.room) ∧ wx.cell? ⟨p, 2, none⟩ = some (.int .i64 D.used)) (by kernel_rfl) (hS0.out) (fun hHeld => ?_)
 refine tkS (i := 0) (oi := ⟨some 38, Op.move (Operand.tmp 2), 41, _, _, none⟩) (v := .slice ba l.length bc) rfl (Or.inl ⟨by rfl, fun w hS => by obtain ⟨hS1, hS2⟩ := hS; go_simp⟩) hHeld ?_
 refine tkS (i := 1) (oi := ⟨some 39, Op.call { callee := Callee.builtin Builtin.len, args := #[Operand.tmp 38], argTypes := #[41] }, 3, _, _, none⟩) (v := .int .i64 (l.length : Int)) rfl (Or.inl ⟨by rfl, fun w hS => by obtain ⟨hS1, hS2⟩ := hS; go_simp⟩) hHeld ?_
 refine tkS (i := 2) (oi := ⟨some 40, Op.move (Operand.tmp 7), 48, _, _, none⟩) (v := .pointer (some ⟨p, 0, none⟩)) rfl (Or.inl ⟨by rfl, fun w hS => by obtain ⟨hS1, hS2⟩ := hS; go_simp⟩) hHeld ?_
 refine tkS (i := 3) (oi := ⟨some 41, Op.nilCheck (Operand.tmp 40), 0, _, _, none⟩) (v := .pointer (some ⟨p, 0, none⟩)) rfl (Or.inl ⟨by rfl, fun w hS => by obtain ⟨hS1, hS2⟩ := hS; go_simp⟩) hHeld ?_
 refine tkS (i := 4) (oi := ⟨some 42, Op.fieldAddr 51 (Operand.tmp 41) 1, 0, _, _, none⟩) (v := .pointer (some ⟨p, 1, none⟩)) rfl (Or.inl ⟨by rfl, fun w hS => by obtain ⟨hS1, hS2⟩ := hS; go_simp⟩) hHeld ?_
 refine tkS (i := 5) (oi := ⟨some 43, Op.load 3 (Operand.tmp 42), 3, _, _, none⟩) (v := .int .i64 D.room) rfl (Or.inl ⟨by rfl, fun w hS => by obtain ⟨hS1, hS2⟩ := hS; go_simp⟩) hHeld ?_
 refine tkS (i := 6) (oi := ⟨some 44, Op.move (Operand.tmp 7), 48, _, _, none⟩) (v := .pointer (some ⟨p, 0, none⟩)) rfl (Or.inl ⟨by rfl, fun w hS => by obtain ⟨hS1, hS2⟩ := hS; go_simp⟩) hHeld ?_
 refine tkS (i := 7) (oi := ⟨some 45, Op.nilCheck (Operand.tmp 44), 0, _, _, none⟩) (v := .pointer (some ⟨p, 0, none⟩)) rfl (Or.inl ⟨by rfl, fun w hS => by obtain ⟨hS1, hS2⟩ := hS; go_simp⟩) hHeld ?_
 refine tkS (i := 8) (oi := ⟨some 46, Op.fieldAddr 51 (Operand.tmp 45) 2, 0, _, _, none⟩) (v := .pointer (some ⟨p, 2, none⟩)) rfl (Or.inl ⟨by rfl, fun w hS => by obtain ⟨hS1, hS2⟩ := hS; go_simp⟩) hHeld ?_
 refine tkS (i := 9) (oi := ⟨some 47, Op.load 3 (Operand.tmp 46), 3, _, _, none⟩) (v := .int .i64 D.used) rfl (Or.inl ⟨by rfl, fun w hS => by obtain ⟨hS1, hS2⟩ := hS; go_simp⟩) hHeld ?_
 refine tkS (i := 10) (oi := ⟨some 48, Op.binOp BinOp.sub 3 (Operand.tmp 43) (Operand.tmp 47) 3, 3, _, _, none⟩) (v := .int .i64 (D.room - D.used)) rfl (Or.inl ⟨by rfl, fun w hS => by obtain ⟨hS1, hS2⟩ := hS; go_simp⟩) hHeld ?_
 refine tkS (i := 11) (oi := ⟨some 49, Op.binOp BinOp.gtr 3 (Operand.tmp 39) (Operand.tmp 48) 3, 4, _, _, none⟩) (v := .bool false) rfl (Or.inl ⟨by rfl, fun w hS => by obtain ⟨hS1, hS2⟩ := hS; go_simp⟩) hHeld ?_
 refine wpAnyH_done (by kernel_rfl) ?_ _
 refine hK11 _ _ ?_
 refine wp_cond_false rfl ?_
 refine wp_skip ?_
 refine hK10 _ _ ?_
 refine wp_seq_k fun K12 hK12 => ?_
 refine wp_seq_k fun K13 hK13 => rgn ?_
 refine VlS (.bool true) ?_
 refine VlS (.bool false) ?_
 refine WL.nil (hK13 _ _ ?_)
 refine wp_cond_false rfl ?_
 refine wp_skip ?_
 refine hK12 _ _ ?_
 refine wp_seq_k fun K14 hK14 => ?_
 have HD8 := Keep.mk (HD1.out.grown (Grown.refl w1 (fun _ => False)).drew fun _ _ h => h)
 have B8 : Keep (Below wz.heap.size wz w1.drew) := ⟨B1.out.drew⟩
 clear hS0 hwr hle HD1 B1
 generalize w1.drew = w8 at *
 have HR8 := Keep.mk (HR.out.below B8.out)
 obtain ⟨f_, hf_⟩ : ∃ f, D.fs[i]? = some f := ⟨f, HFi.out⟩
 obtain rfl : f = f_ := Option.some.inj (HFi.out.symm.trans hf_)
 have hci : i < cs.length := by have h := HD8.out.fcs.len; have h2 := (List.getElem?_eq_some_iff.1 hf_).1; omega
 obtain ⟨x, hx⟩ : ∃ x, cs[i]? = some x := ⟨cs[i], List.getElem?_eq_getElem hci⟩
 have HX := Keep.mk hx
 obtain ⟨g7, ha, hrg⟩ := HD8.out.own.at hx
 subst ha
 have hec := HD8.out.fcs.each i x f hx hf_
 have HOx : Keep (Own w8 x.b f.bs) := ⟨hec.2.2⟩
 obtain ⟨xn, xb, xs⟩ := x
 obtain ⟨xa, xm, xc, hxb⟩ := hec.2.2.sl
 change xb = _ at hxb
 subst hxb
 have HR1 : Keep (w8.cell? ⟨g7, i * 3 + 1, none⟩ = some (.slice xa xm xc)) := ⟨hrg 1 _ rfl⟩
 have hgp : Keep (g7 ≠ p) := ⟨fun e => HD8.out.own.ne HD8.out.blk (by decide) (by rw [e]; rfl)⟩
 have hilc : (i : Int) < (cs.length : Int) := by omega
 clear hrg hec hx hf_ hci
 have hS0 : Keep (w8.drew.cell? ⟨p, 0, none⟩ = some (.slice (some ⟨g7, 0, none⟩) cs.length vc)) := ⟨HD8.out.blk.drew.c 0 rfl⟩
 refine wp_region_held_drew (S := fun wx => wx.cell? ⟨p, 0, none⟩ = some (.slice (some ⟨g7, 0, none⟩) cs.length vc)) (by kernel_rfl) (hS0.out) (fun hHeld => ?_)
 refine tkS (i := 0) (oi := ⟨some 76, Op.move (Operand.tmp 7), 48, _, _, none⟩) (v := .pointer (some ⟨p, 0, none⟩)) rfl (Or.inl ⟨by rfl, fun w hS => by go_simp⟩) hHeld ?_
 refine tkS (i := 1) (oi := ⟨some 77, Op.nilCheck (Operand.tmp 76), 0, _, _, none⟩) (v := .pointer (some ⟨p, 0, none⟩)) rfl (Or.inl ⟨by rfl, fun w hS => by go_simp⟩) hHeld ?_
 refine tkS (i := 2) (oi := ⟨some 78, Op.fieldAddr 51 (Operand.tmp 77) 0, 0, _, _, none⟩) (v := .pointer (some ⟨p, 0, none⟩)) rfl (Or.inl ⟨by rfl, fun w hS => by go_simp⟩) hHeld ?_
 refine tkS (i := 3) (oi := ⟨some 79, Op.load 49 (Operand.tmp 78), 49, _, _, none⟩) (v := .slice (some ⟨g7, 0, none⟩) cs.length vc) rfl (Or.inl ⟨by rfl, fun w hS => by go_simp⟩) hHeld ?_
 refine tkS (i := 4) (oi := ⟨some 80, Op.move (Operand.tmp 8), 3, _, _, none⟩) (v := .int .i64 (i : Int)) rfl (Or.inl ⟨by rfl, fun w hS => by go_simp⟩) hHeld ?_
 refine tkS (i := 5) (oi := ⟨some 81, Op.move (Operand.tmp 7), 48, _, _, none⟩) (v := .pointer (some ⟨p, 0, none⟩)) rfl (Or.inl ⟨by rfl, fun w hS => by go_simp⟩) hHeld ?_
 refine tkS (i := 6) (oi := ⟨some 82, Op.nilCheck (Operand.tmp 81), 0, _, _, none⟩) (v := .pointer (some ⟨p, 0, none⟩)) rfl (Or.inl ⟨by rfl, fun w hS => by go_simp⟩) hHeld ?_
 refine tkS (i := 7) (oi := ⟨some 83, Op.fieldAddr 51 (Operand.tmp 82) 0, 0, _, _, none⟩) (v := .pointer (some ⟨p, 0, none⟩)) rfl (Or.inl ⟨by rfl, fun w hS => by go_simp⟩) hHeld ?_
 refine tkS (i := 8) (oi := ⟨some 84, Op.load 49 (Operand.tmp 83), 49, _, _, none⟩) (v := .slice (some ⟨g7, 0, none⟩) cs.length vc) rfl (Or.inl ⟨by rfl, fun w hS => by go_simp⟩) hHeld ?_
 refine tkS (i := 9) (oi := ⟨some 85, Op.move (Operand.tmp 8), 3, _, _, none⟩) (v := .int .i64 (i : Int)) rfl (Or.inl ⟨by rfl, fun w hS => by go_simp⟩) hHeld ?_
 refine tkS (i := 10) (oi := ⟨some 86, Op.indexAddr 49 (Operand.tmp 84) (Operand.tmp 85), 0, _, _, none⟩) (v := .pointer (some ⟨g7, i * 3, none⟩)) rfl (Or.inl ⟨by rfl, fun w hS => by go_simp⟩) hHeld ?_
 refine tkS (i := 11) (oi := ⟨some 87, Op.fieldAddr 72 (Operand.tmp 86) 1, 0, _, _, none⟩) (v := .pointer (some ⟨g7, i * 3 + 1, none⟩)) rfl (Or.inl ⟨by rfl, fun w hS => by go_simp⟩) hHeld ?_
 refine tkS (i := 13) (oi := ⟨some 89, Op.move (Operand.tmp 2), 41, _, _, none⟩) (v := .slice ba l.length bc) rfl (Or.inl ⟨by rfl, fun w hS => by go_simp⟩) hHeld ?_
 refine wpAnyH_ready (rs := [12]) (by kernel_rfl) (by simp) ?_
 refine AllReadyH.cons (o := ⟨some 88, Op.load 41 (Operand.tmp 87), 41, _, _, none⟩) rfl (fun K hK => ?_) AllReadyH.nil
 rw [if_pos (by rfl)]
 have cl : w8.drew.cell? ⟨g7, i * 3 + 1, none⟩ = some (.slice xa xm xc) := HR1.out
 refine wp_val (.slice xa xm xc) (by go_simp) ?_
 clear cl
 refine hK _ _ hS0.out fun hH1 => ?_
 clear hK
 simp only [Act.put, pqA, pqB, pqC]
 refine wpAnyH_ready (rs := [14]) (by kernel_rfl) (by simp) ?_
 refine AllReadyH.cons (o := ⟨some 90, Op.call { callee := Callee.builtin Builtin.append, args := #[Operand.tmp 88, Operand.tmp 89], argTypes := #[41, 41] }, 41, _, _, none⟩) rfl (fun K hK => ?_) AllReadyH.nil
 rw [if_pos (by rfl)]
 refine wp_app (.tmp 88) (.tmp 89) rfl (.slice xa xm xc) (.slice ba l.length bc) f.bs l rfl rfl (HOx.out.grown (Grown.refl w8 (fun _ => False)).drew fun _ _ h => h) (HR8.out.below (Below.refl _ _).drew) (by have := HU.out; have := HFl.out; omega) fun v9 w9 hp => ?_
 have HA9 := Keep.mk hp
 clear hp
 obtain ⟨a9, n9, k9, e9⟩ := HA9.out.1.sl
 subst e9
 have GA9 : Keep (Grown w8 w9 fun k => (Value.slice xa xm xc).ownBlock = some k) := ⟨(Grown.refl w8 _).drew.trans HA9.out.grown⟩
 have hxt : Keep (∀ k, (Value.slice xa xm xc).ownBlock = some k → Typ w8 k 5) := ⟨fun k hk => HOx.out.typ hk⟩
 have HB9 : Keep (Blk w9 p 51 (stA (.slice (some ⟨g7, 0, none⟩) cs.length vc) D)) := ⟨GA9.out.blk HD8.out.blk fun e => by have := (hxt.out p e).one HD8.out.blk.typ; revert this; decide⟩
 have HG9 : Keep (OwnF w9 (.slice (some ⟨g7, 0, none⟩) cs.length vc) cs) := ⟨HD8.out.own.grown GA9.out fun k hk e => by have := (hxt.out k e).one (HD8.out.own.typ hk); revert this; decide⟩
 have C9 : Keep (w9.cell? ⟨g7, i * 3 + 1, none⟩ = some (.slice xa xm xc)) := ⟨GA9.out.cell HR1.out fun e => by have := (hxt.out g7 e).one (HD8.out.own.typ rfl); revert this; decide⟩
 refine hK _ _ (HB9.out.c 0 rfl) fun hH2 => ?_
 clear hK
 simp only [Act.put, pqA, pqB, pqC]
 refine tkS (i := 15) (oi := ⟨some 91, Op.indexAddr 49 (Operand.tmp 79) (Operand.tmp 80), 0, _, _, none⟩) (v := .pointer (some ⟨g7, i * 3, none⟩)) rfl (Or.inl ⟨by rfl, fun w hS => by go_simp⟩) hH2 ?_
 refine tkS (i := 16) (oi := ⟨some 92, Op.fieldAddr 72 (Operand.tmp 91) 1, 0, _, _, none⟩) (v := .pointer (some ⟨g7, i * 3 + 1, none⟩)) rfl (Or.inl ⟨by rfl, fun w hS => by go_simp⟩) hH2 ?_
 refine wpAnyH_ready (rs := [17]) (by kernel_rfl) (by simp) ?_
 refine AllReadyH.cons (o := ⟨none, Op.store 41 (Operand.tmp 92) (Operand.tmp 90), 0, _, _, none⟩) rfl (fun K hK => ?_) AllReadyH.nil
 rw [if_pos (by rfl)]
 have f_o : w9.frozen? ⟨g7, i * 3 + 1, none⟩ = false := ownF_frozen HG9.out _
 have cl := C9.out
 refine wp_cellS (w9.setCell ⟨g7, i * 3 + 1, none⟩ (.slice a9 n9 k9)) (by go_simp) ?_
 clear f_o cl
 refine hK _ _ ((Grown.setCell w9 g7 (i * 3 + 1) _ (S := fun k => k = g7) fun _ => rfl).cell (HB9.out.c 0 rfl) (fun e => hgp.out e.symm)) fun hH3 => ?_
 clear hK
 simp only [Act.put, pqA, pqB, pqC]
 refine wpAnyH_done (by kernel_rfl) ?_ _
 refine hK14 _ _ ?_
 refine wp_seq_k fun K15 hK15 => ?_
 obtain ⟨w10, hw10⟩ : ∃ wx, Keep (wx = w9.setCell ⟨g7, i * 3 + 1, none⟩ (.slice a9 n9 k9)) := ⟨_, ⟨rfl⟩⟩
 rw [← hw10.out]
 have HD10 : Keep (DskAt w10 p (.slice (some ⟨g7, 0, none⟩) cs.length vc) (cs.set i (⟨xn, .slice a9 n9 k9, xs⟩ : FC)) { D with fs := D.fs.set i (f.app l) }) := ⟨by rw [hw10.out]; exact dsk_app HD8.out HX.out HFi.out HA9.out⟩
 have G10 : Keep (Grown wz w10 fun k => k = p ∨ k = g7 ∨ (Value.slice xa xm xc).ownBlock = some k) := ⟨by rw [hw10.out]; exact ((Grown.below B8.out).trans (GA9.out.mono fun k _ h => .inr (.inr h))).next (Grown.setCell w9 g7 _ _ (S := fun k => k = g7) fun _ => rfl) fun k hk e => .inr (.inl e)⟩
 have N10 : Keep (∀ k, DskS p (.slice (some ⟨g7, 0, none⟩) cs.length vc) (cs.set i (⟨xn, .slice a9 n9 k9, xs⟩ : FC)) k → DskS p (.slice (some ⟨g7, 0, none⟩) cs.length vc) cs k ∨ wz.heap.size ≤ k) := ⟨fun k hk => (dskS_app HX.out HA9.out hk).imp id fun h => Nat.le_trans B8.out.size h⟩
 clear HD8 HA9 GA9 hw10 HR8 HR1 hS0 HB9 HG9 C9
 have c2 := HD10.out.blk.c 2 (by rfl : (stA (.slice (some ⟨g7, 0, none⟩) cs.length vc) { D with fs := D.fs.set i (f.app l) })[2]? = some (.int .i64 D.used))
 have f_o := HD10.out.blk.frozen 2
 have hwu : IntKind.i64.wrap (D.used + (l.length : Int)) = D.used + (l.length : Int) := by rw [IntKind.wrap_i64]; have := HU.out; omega
 refine rgn ?_
 refine VlS (.pointer (some ⟨p, 0, none⟩)) ?_
 refine VlS (.pointer (some ⟨p, 0, none⟩)) ?_
 refine VlS (.pointer (some ⟨p, 2, none⟩)) ?_
 refine VlS (.int .i64 D.used) ?_
 refine VlS (.slice ba l.length bc) ?_
 refine VlS (.int .i64 (l.length : Int)) ?_
 refine VlS (.int .i64 (D.used + (l.length : Int))) ?_
 refine VlS (.pointer (some ⟨p, 0, none⟩)) ?_
 refine VlS (.pointer (some ⟨p, 2, none⟩)) ?_
 refine WL.cell (by kernel_rfl) (w10.setCell ⟨p, 2, none⟩ (.int .i64 (D.used + (l.length : Int)))) (by go_simp) ?_
 clear f_o c2
 have HD11 : Keep (DskAt (w10.setCell ⟨p, 2, none⟩ (.int .i64 (D.used + (l.length : Int)))) p (.slice (some ⟨g7, 0, none⟩) cs.length vc) (cs.set i (⟨xn, .slice a9 n9 k9, xs⟩ : FC)) { D with fs := D.fs.set i (f.app l), used := D.used + (l.length : Int) }) := ⟨HD10.out.put rfl rfl⟩
 have G11 : Keep (Grown wz (w10.setCell ⟨p, 2, none⟩ (.int .i64 (D.used + (l.length : Int)))) fun k => k = p ∨ k = g7 ∨ (Value.slice xa xm xc).ownBlock = some k) := ⟨G10.out.trans (Grown.setCell w10 p 2 _ fun _ => .inl rfl)⟩
 clear HD10 G10
 generalize w10.setCell ⟨p, 2, none⟩ (.int .i64 (D.used + (l.length : Int))) = w11 at *
 simp only [Act.put]
 refine WL.nil (hK15 _ _ ?_)
 refine wp_seq_k fun K16 hK16 => ?_
 refine wp_seq_k fun K17 hK17 => rgn ?_
 refine VlS (.pointer (some ⟨p, 0, none⟩)) ?_
 have hac := act_any p _ _ _ w11 HD11.out HA.out ⟨HFu.out.1, HFu.out.2⟩
 refine WL.callF (by kernel_rfl) 44 _ _ rfl Tryd.in44 #[ptr p] (by simp [Act.eval]) ?_
 refine (hac).mono ?_
 rintro e wq ⟨rfl, h1, h2⟩
 refine ⟨_, rfl, ?_⟩
 have HD12 := Keep.mk h1
 have G12 : Keep (Grown wz wq fun k => k = p ∨ k = g7 ∨ (Value.slice xa xm xc).ownBlock = some k) := ⟨G11.out.trans (h2.mono fun k _ e => .inl e)⟩
 clear h1 h2 hac
 simp only [Act.put, pqA, pqB, pqC]
 rcases Decidable.em (D.fuse = 0) with hfu | hfu
 ·rw [show decide (D.fuse = 0) = true from decide_eq_true hfu]
  refine WL.nil (hK17 _ _ ?_)
  refine wp_cond_true rfl ?_
  refine wp_seq_k fun K18 hK18 => rgn ?_
  refine VlS (.int .i64 7) ?_
  refine WL.nil (hK18 _ _ ?_)
  refine wp_ret ?_
  go_ret
  exact ⟨by unfold pw; rw [if_pos hfu]; rfl, _, _, HD12.out, G12.out.mono fun k _ h => h.imp id fun h => h.imp (fun e => by rw [e]; rfl) fun h => ⟨i, _, HX.out, h⟩, N10.out⟩
 ·rw [show decide (D.fuse = 0) = false from decide_eq_false hfu]
  refine WL.nil (hK17 _ _ ?_)
  refine wp_cond_false rfl ?_
  refine wp_skip ?_
  refine hK16 _ _ ?_
  refine wp_seq_k fun K19 hK19 => rgn ?_
  refine VlS (.int .i64 0) ?_
  refine WL.nil (hK19 _ _ ?_)
  refine wp_ret ?_
  go_ret
  exact ⟨by unfold pw; rw [if_neg hfu]; rfl, _, _, HD12.out, G12.out.mono fun k _ h => h.imp id fun h => h.imp (fun e => by rw [e]; rfl) fun h => ⟨i, _, HX.out, h⟩, N10.out⟩
end Go.Proofs.YtlggejehaonkcaaDoor
