import Derived.Test.YtennogmeeefopaaDoorA03
import Derived.Test.YtennogmeeefopaaDoorA04
import Derived.Deep.RegionHeld3
import Derived.Deep.MidRow
namespace Go.Proofs.YtennogmeeefopaaDoor
open Go.RowKit
set_option linter.unusedSimpArgs false
set_option linter.unusedVariables false

theorem Tryd.in24 (w : World) (vs : Array Value) : (callFunc 24 vs).run Tryd.prog w = .ok (.enter 24 vs) w := by kernel_rfl
theorem Tryd.in25 (w : World) (vs : Array Value) : (callFunc 25 vs).run Tryd.prog w = .ok (.enter 25 vs) w := by kernel_rfl
def pL (l : List (Int × Int)) : List Value := l.flatMap fun c => [.int .i64 c.1, .int .i64 c.2]
theorem pL_len : ∀ l : List (Int × Int), (pL l).length = l.length * 2
 | [] => rfl
 | c :: r => by simp [pL]; have := pL_len r; simp [pL] at this; omega
theorem pL_one (l : List (Int × Int)) : ∀ u ∈ pL l, u.oneCell' = true := fun u hu => by
 simp [pL] at hu
 obtain ⟨a, b, _, rfl | rfl⟩ := hu <;> rfl
def OwnP (w : World) (v : Value) (l : List (Int × Int)) : Prop := w.ownsRow 0 79 2 v l.length (pL l)
theorem ownP_nil (w : World) : OwnP w (.slice none 0 0) [] := ⟨rfl, .inl ⟨rfl, rfl⟩⟩
theorem OwnP.sl {w : World} {v : Value} {l : List (Int × Int)} (h : OwnP w v l) : ∃ a c, v = .slice a l.length c := by
 rcases h.2 with ⟨rfl, h0⟩ | ⟨g, cap, cur, rfl, _⟩
 ·have : l.length = 0 := by have h1 := h.1; rw [h0] at h1; have := pL_len l; simp at h1; omega
  exact ⟨none, 0, by rw [this]⟩
 ·exact ⟨_, _, rfl⟩
theorem OwnP.grown {w w' : World} {v : Value} {l : List (Int × Int)} {S : Nat → Prop} (h : OwnP w v l) (hg : Grown w w' S) (hs : ∀ k, v.ownBlock = some k → ¬ S k) : OwnP w' v l := by
 rcases h with ⟨h1, h2 | ⟨g, cap, cur, h2, h3, h4, h5⟩⟩
 ·exact ⟨h1, .inl h2⟩
 ·exact ⟨h1, .inr ⟨g, cap, cur, h2, h3, hg.blk h4 (hs g (by rw [h2]; rfl)), h5⟩⟩
theorem OwnP.typ {w : World} {v : Value} {l : List (Int × Int)} (h : OwnP w v l) {k : Nat} (hk : v.ownBlock = some k) : Typ w k 79 := by
 rcases h.2 with ⟨rfl, _⟩ | ⟨g, cap, cur, rfl, _, h4, _⟩
 ·cases hk
 ·obtain rfl : g = k := Option.some.inj hk
  exact Blk.typ h4
theorem Tryd.infoPl : (Tryd.prog.info? 79).map (fun i => (i.zero, i.size, i.bytes)) = some (some (.agg #[.int .i64 (0), .int .i64 (0)]), 2, 16) := by kernel_rfl
theorem run_appP (w : World) (ty : TypeId) (v : Value) (l : List (Int × Int)) (hown : OwnP w v l) (g c : Nat) (x : Int × Int) (hg : Blk w g 79 #[.int .i64 (x.1), .int .i64 (x.2)]) (hb : l.length ≤ 1000000000000) :
  ∃ v' w', (Builtin.append_ #[59, 59] ty #[v, .slice (some ⟨g, 0, none⟩) 1 c]).run Tryd.prog w = .ok v' w' ∧ OwnP w' v' (l ++ [x]) ∧ (Grown w w' fun k => v.ownBlock = some k) ∧ Moved w v v' := by
 obtain ⟨i, hi, hzz⟩ := Option.map_eq_some_iff.1 Tryd.infoPl
 simp only [Prod.mk.injEq] at hzz
 obtain ⟨hz, hsz, hby⟩ := hzz
 obtain ⟨v', w', hr, h1, h2, _, h3⟩ := run_append_own_at (P := Tryd.prog) w 0 59 ty 79 i (.agg #[.int .i64 (0), .int .i64 (0)]) 2 16 Tryd.underlying59 hi hz hsz hby rfl (by omega) v l.length (pL l) hown ⟨g, 0, none⟩ 1 c (pL [x]) rfl (fun j u hu => by
   rw [Addr.add_mid, Nat.zero_add, hg.cell]; simpa [pL] using hu)
  (pL_one _) (by unfold maxLen; omega) (by omega) (Nat.zero_le _)
 refine ⟨v', w', hr, ?_, Grown.of h2 fun k _ e => e, ?_⟩
 ·unfold OwnP
  rw [List.length_append, show pL (l ++ [x]) = pL l ++ pL [x] by simp [pL]]
  exact h1
 ·rcases h3 with h3 | h3
  ·exact .inl h3
  ·exact .inr ⟨_, h3, Nat.le_refl _⟩
theorem wp_appP {Q : Exit → Act → World → Prop} {o : Oper} {a : Act} {w : World} {K : Act → World → Prop} (s x : Operand)
  (ho : o.op = .call { callee := .builtin .append, args := #[s, x], argTypes := #[59, 59] }) (v : Value) (l : List (Int × Int)) (g c : Nat) (y : Int × Int)
  (hs : a.eval s = v) (hx : a.eval x = .slice (some ⟨g, 0, none⟩) 1 c) (hown : OwnP w v l) (hg : Blk w g 79 #[.int .i64 (y.1), .int .i64 (y.2)]) (hb : l.length ≤ 1000000000000)
  (h : ∀ v' w', OwnP w' v' (l ++ [y]) → (Grown w w' fun k => v.ownBlock = some k) → Moved w v v' → K (a.put o.dst v') w') : o.wp Tryd.prog a w K Q := by
 obtain ⟨v', w', hr, h1, h2, h3⟩ := run_appP w o.type v l hown g c y hg hb
 unfold Oper.wp execOp
 simp only [ho, resolve, invoke, builtin, Sem.run_bind, Sem.run_pure, Result.andThen_ok, List.map_toArray, List.map_cons, List.map_nil, hs, hx, hr]
 exact h v' w' h1 h2 h3
theorem bsP (a b : Int) (w : World) : (Instr.buildSlice 59 1 #[(0, .agg #[.int .i64 (a), .int .i64 (b)])]).run Tryd.prog w = .ok (.slice (some ⟨w.heap.size, 0, none⟩) 1 1) (w.alloc (.cells #[.int .i64 (a), .int .i64 (b)] 79)) := by kernel_rfl
theorem wp_bs {P : Program} {o : Oper} {a : Act} {w : World} {K : Act → World → Prop} {Q : Exit → Act → World → Prop} (t : TypeId) (n : Nat) (parts : Array (Nat × Operand)) (ho : o.op = .buildSlice t n parts)
  (vs : Array (Nat × Value)) (hv : parts.map (fun x => (x.1, a.eval x.2)) = vs) (v : Value) (w' : World) (hrun : (Instr.buildSlice t n vs).run P w = .ok v w') (h : K (a.put o.dst v) w') : o.wp P a w K Q := by
 unfold Oper.wp execOp
 simp only [ho, hv, Sem.run_bind, hrun, Result.andThen_ok, Sem.run_pure]
 exact h
theorem nm0_rgt : rgt (nmS 0) = true := by rw [nmS_0]; decide +kernel
set_option maxRecDepth 8000 in
set_option maxHeartbeats 2000000 in
theorem japp_none (g d p i : Nat) (v vf vp : Value) (l : List Int) (cs : List FC) (D : DV) (pl : List (Int × Int)) (sz : Int) (la : Bool) (w : World) (hT : Tab w) (hJ : Blk w g 61 (jA d vp (-1) sz la false)) (hDk : Blk w d 75 #[ptr p]) (hD : DskAt w p vf cs D) (hPl : OwnP w vp pl) (hPp : ∀ k, vp.ownBlock = some k → k ≠ p) (hPn : pl.length ≤ 1000000000) (hO : D.out = false) (hF : fnd (nmS 0) D.fs 0 = (i, false)) (hC : cs.length < 256)
  (hL : 1 ≤ (l.length : Int) ∧ (l.length : Int) ≤ 1048576) (hU : 0 ≤ D.used ∧ 0 ≤ D.room ∧ D.room ≤ 70368744177664 ∧ 16 + (l.length : Int) ≤ D.room - D.used) (hA : 0 ≤ D.acts ∧ D.acts ≤ 4611686018427387904) (hFu : -9223372036854775808 < D.fuse ∧ D.fuse ≤ 9223372036854775807 ∧ ¬ D.fuse = 0) (hR : RowAt w v l) :
  Calls Tryd.prog 24 #[ptr g, v] w fun e w' => e = .returned (.int .i64 0) ∧ ∃ vp' vf' cs', Blk w' g 61 (jA d vp' 0 (16 + (l.length : Int)) true false) ∧ OwnP w' vp' (pl ++ [(0, 0)]) ∧ DskAt w' p vf' cs' (D.appNew i (nmS 0) (hl 16 (hdF l) ++ l)) ∧ (Grown w w' fun k => k = p ∨ k = g ∨ vp.ownBlock = some k) ∧ (∀ k, DskS p vf' cs' k → DskS p vf cs k ∨ w.heap.size ≤ k) ∧ ∀ k, vp'.ownBlock = some k → vp.ownBlock = some k ∨ w.heap.size ≤ k := by
 obtain ⟨ba, bc, rfl⟩ := row_form hR
 obtain ⟨pa, pc, rfl⟩ := hPl.sl
 have HZ : Keep (0 < w.heap.size) := ⟨Nat.lt_of_le_of_lt (Nat.zero_le _) hJ.lt⟩
 have HT := Keep.mk hT
 have HJ := Keep.mk hJ
 have HDk := Keep.mk hDk
 have HD := Keep.mk hD
 have HPl := Keep.mk hPl
 have HPp := Keep.mk hPp
 have HPn := Keep.mk hPn
 have HPw : Keep (∀ k, (Value.slice pa pl.length pc).ownBlock = some k → k < w.heap.size) := ⟨fun k hk => (hPl.typ hk).lt⟩
 have HPg : Keep (∀ k, (Value.slice pa pl.length pc).ownBlock = some k → k ≠ g) := ⟨fun k hk e => by subst e; have := (hPl.typ hk).one hJ.typ; revert this; decide⟩
 have HO := Keep.mk hO
 have HF := Keep.mk hF
 have HC := Keep.mk hC
 have HL := Keep.mk hL
 have HU := Keep.mk hU
 have HA := Keep.mk hA
 have HFu := Keep.mk hFu
 have HR := Keep.mk hR
 clear hT hJ hDk hD hPl hPp hPn hO hF hC hL hU hA hFu hR
 go_enter Tryd.func24, Tryd.ntmps24
 have c5 := HJ.out.c 5 (by rfl : (jA d (.slice pa pl.length pc) (-1) sz la false)[5]? = some (.bool false))
 have hl0 : ¬ (l.length : Int) = 0 := by have := HL.out; omega
 have hl1 : ¬ (1048576 : Int) < (l.length : Int) := by have := HL.out; omega
 have hln : ¬ l.length = 0 := by have := HL.out; omega
 have hwl : IntKind.i64.wrap (16 + (l.length : Int)) = 16 + (l.length : Int) := by rw [IntKind.wrap_i64]; have := HL.out; omega
 refine wp_seq_k fun K1 hK1 => rgn ?_
 refine VlS (.int .i64 0) ?_
 refine WL.nil (hK1 _ _ ?_)
 refine wp_seq_k fun K2 hK2 => ?_
 refine wp_block ?_
 refine wp_seq_k fun K3 hK3 => rgn ?_
 refine VlS (.pointer (some ⟨g, 0, none⟩)) ?_
 refine VlS (.pointer (some ⟨g, 0, none⟩)) ?_
 refine VlS (.pointer (some ⟨g, 5, none⟩)) ?_
 refine VlS (.bool false) ?_
 refine VlS (.bool false) ?_
 refine WL.nil (hK3 _ _ ?_)
 refine wp_cond_false rfl ?_
 refine wp_seq_k fun K4 hK4 => rgn ?_
 refine VlS (.slice ba l.length bc) ?_
 refine VlS (.int .i64 (l.length : Int)) ?_
 refine VlS (.bool false) ?_
 refine VlS (.bool false) ?_
 refine WL.nil (hK4 _ _ ?_)
 refine wp_cond_false rfl ?_
 refine wp_seq_k fun K5 hK5 => rgn ?_
 refine VlS (.slice ba l.length bc) ?_
 refine VlS (.int .i64 (l.length : Int)) ?_
 refine VlS (.bool false) ?_
 refine VlS (.bool false) ?_
 refine WL.nil (hK5 _ _ ?_)
 refine wp_cond_false rfl ?_
 refine wp_skip ?_
 refine hK2 _ _ ?_
 refine wp_seq_k fun K6 hK6 => rgn ?_
 refine VlS (.pointer (some ⟨g, 0, none⟩)) ?_
 refine VlS (.slice ba l.length bc) ?_
 refine VlS (.int .i64 (l.length : Int)) ?_
 refine VlS (.int .i64 (16 + (l.length : Int))) ?_
 clear c5 hl0 hl1 hln hwl
 refine WL.callF (by kernel_rfl) 44 _ _ rfl Tryd.in44 #[ptr g, .int .i64 (16 + (l.length : Int))] (by simp [Act.eval]) ?_
 refine (next_none g _ w (HJ.out.c 2 rfl)).mono ?_
 rintro e w1 ⟨rfl, hb1⟩
 refine ⟨_, rfl, ?_⟩
 have B1 := Keep.mk hb1
 clear hb1
 simp only [Act.put, pqA, pqB, pqC]
 refine WL.new (by kernel_rfl) 79 rfl _ Tryd.newPl ?_
 have HP := Keep.mk (Blk.new w1 79 #[.int .i64 (0), .int .i64 (0)])
 have hbx := below_new w1 (.cells #[.int .i64 (0), .int .i64 (0)] 79)
 have B2 : Keep (Below w.heap.size w (w1.alloc (.cells #[.int .i64 (0), .int .i64 (0)] 79))) := ⟨B1.out.trans (hbx.mono B1.out.size)⟩
 clear hbx
 change WL _ _ _ _ _ (w1.alloc (.cells #[.int .i64 (0), .int .i64 (0)] 79))
 generalize w1.alloc (.cells #[.int .i64 (0), .int .i64 (0)] 79) = w2 at *
 obtain ⟨q, hq⟩ : ∃ p, Keep (p = w1.heap.size) := ⟨_, ⟨rfl⟩⟩
 rw [← hq.out] at HP ⊢
 have hqw : Keep (w.heap.size ≤ q) := ⟨by rw [hq.out]; exact B1.out.size⟩
 simp only [Act.put, pqA, pqB, pqC]
 refine WL.storeR (by kernel_rfl) 79 (.tmp 5) (.tmp 25) rfl q #[.int .i64 (0), .int .i64 (0)] rfl rfl 79 #[.int .i64 (0), .int .i64 (0)] HP.out (by kernel_rfl) rfl (by kernel_rfl) ?_
 have HP3 := Keep.mk (HP.out.setRow #[.int .i64 (0), .int .i64 (0)])
 have B3 : Keep (Below w.heap.size w (w2.setRow q #[.int .i64 (0), .int .i64 (0)])) := ⟨below_setRow B2.out hqw.out _⟩
 clear HP
 generalize w2.setRow q #[.int .i64 (0), .int .i64 (0)] = w3 at *
 have q0 := HP3.out.c 0 (by rfl : (#[.int .i64 (0), .int .i64 (0)] : Array Value)[0]? = some (.int .i64 0))
 have HJ3 := Keep.mk (HJ.out.below B3.out HJ.out.lt)
 have HT3 := Keep.mk (HT.out.below B3.out HZ.out)
 simp only [Act.put]
 refine WL.nil (hK6 _ _ ?_)
 refine wp_seq_k fun K7 hK7 => ?_
 refine wp_seq_k fun K8 hK8 => rgn ?_
 refine VlS (.pointer (some ⟨q, 0, none⟩)) ?_
 refine VlS (.int .i64 0) ?_
 refine VlS (.bool false) ?_
 refine WL.nil (hK8 _ _ ?_)
 refine wp_cond_false rfl ?_
 refine wp_skip ?_
 refine hK7 _ _ ?_
 refine wp_seq_k fun K9 hK9 => ?_
 refine wp_seq_k fun K10 hK10 => ?_
 clear q0
 have hS0 : Keep (w3.drew.cell? ⟨g, 2, none⟩ = some (.int .i64 (-1))) := ⟨HJ3.out.drew.c 2 rfl⟩
 refine wp_region_held_drew (S := fun wx => wx.cell? ⟨g, 2, none⟩ = some (.int .i64 (-1))) (by kernel_rfl) (hS0.out) (fun hHeld => ?_)
 refine tkS (i := 0) (oi := ⟨some 29, Op.move (Operand.tmp 0), 22, _, _, none⟩) (v := .pointer (some ⟨g, 0, none⟩)) rfl (Or.inl ⟨by rfl, fun w hS => by go_simp⟩) hHeld ?_
 refine tkS (i := 1) (oi := ⟨some 30, Op.nilCheck (Operand.tmp 29), 0, _, _, none⟩) (v := .pointer (some ⟨g, 0, none⟩)) rfl (Or.inl ⟨by rfl, fun w hS => by go_simp⟩) hHeld ?_
 refine tkS (i := 2) (oi := ⟨some 31, Op.fieldAddr 61 (Operand.tmp 30) 2, 0, _, _, none⟩) (v := .pointer (some ⟨g, 2, none⟩)) rfl (Or.inl ⟨by rfl, fun w hS => by go_simp⟩) hHeld ?_
 refine tkS (i := 3) (oi := ⟨some 32, Op.load 3 (Operand.tmp 31), 3, _, _, none⟩) (v := .int .i64 (-1)) rfl (Or.inl ⟨by rfl, fun w hS => by go_simp⟩) hHeld ?_
 refine tkS (i := 4) (oi := ⟨some 33, Op.binOp BinOp.neq 3 (Operand.tmp 32) (Operand.const (Value.int IntKind.i64 (-1))) 3, 4, _, _, none⟩) (v := .bool false) rfl (Or.inl ⟨by rfl, fun w hS => by go_simp⟩) hHeld ?_
 refine tkS (i := 5) (oi := ⟨some 34, Op.move (Operand.tmp 33), 4, _, _, none⟩) (v := .bool false) rfl (Or.inl ⟨by rfl, fun w hS => by go_simp⟩) hHeld ?_
 refine tkS (i := 6) (oi := ⟨some 35, Op.fieldAddr 79 (Operand.tmp 5) 0, 0, _, _, some (5, true)⟩) (v := undef) rfl (Or.inr ⟨by rfl, rfl⟩) hHeld ?_
 refine tkS (i := 7) (oi := ⟨some 36, Op.load 3 (Operand.tmp 35), 3, _, _, some (5, true)⟩) (v := undef) rfl (Or.inr ⟨by rfl, rfl⟩) hHeld ?_
 refine tkS (i := 8) (oi := ⟨some 37, Op.move (Operand.tmp 0), 22, _, _, some (5, true)⟩) (v := undef) rfl (Or.inr ⟨by rfl, rfl⟩) hHeld ?_
 refine tkS (i := 9) (oi := ⟨some 38, Op.nilCheck (Operand.tmp 37), 0, _, _, some (5, true)⟩) (v := undef) rfl (Or.inr ⟨by rfl, rfl⟩) hHeld ?_
 refine tkS (i := 10) (oi := ⟨some 39, Op.fieldAddr 61 (Operand.tmp 38) 2, 0, _, _, some (5, true)⟩) (v := undef) rfl (Or.inr ⟨by rfl, rfl⟩) hHeld ?_
 refine tkS (i := 11) (oi := ⟨some 40, Op.load 3 (Operand.tmp 39), 3, _, _, some (5, true)⟩) (v := undef) rfl (Or.inr ⟨by rfl, rfl⟩) hHeld ?_
 refine tkS (i := 12) (oi := ⟨some 41, Op.binOp BinOp.neq 3 (Operand.tmp 36) (Operand.tmp 40) 3, 4, _, _, some (5, true)⟩) (v := undef) rfl (Or.inr ⟨by rfl, rfl⟩) hHeld ?_
 refine tkS (i := 13) (oi := ⟨some 42, Op.pick (Operand.tmp 34) (Operand.tmp 41) (Operand.const (Value.bool false)), 4, _, _, none⟩) (v := .bool false) rfl (Or.inl ⟨by rfl, fun w hS => by go_simp⟩) hHeld ?_
 refine wpAnyH_done (by kernel_rfl) ?_ _
 refine hK10 _ _ ?_
 refine wp_cond_false rfl ?_
 refine wp_skip ?_
 refine hK9 _ _ ?_
 refine wp_seq_k fun K11 hK11 => ?_
 have HJ4 : Keep (Blk w3.drew g 61 (jA d (.slice pa pl.length pc) (-1) sz la false)) := ⟨HJ3.out.drew⟩
 have HP4 : Keep (Blk w3.drew q 79 #[.int .i64 (0), .int .i64 (0)]) := ⟨HP3.out.drew⟩
 have HT4 : Keep (Tab w3.drew) := ⟨HT3.out.below (Below.refl w3.heap.size w3).drew (Nat.lt_of_le_of_lt (Nat.zero_le _) HJ3.out.lt)⟩
 have B4 : Keep (Below w.heap.size w w3.drew) := ⟨B3.out.drew⟩
 clear hS0 HJ3 HP3 HT3
 generalize w3.drew = w4 at *
 have HS4 : Keep (∀ wx, Below w4.heap.size w4 wx → wx.cell? ⟨g, 0, none⟩ = some (ptr d) ∧ wx.cell? ⟨q, 0, none⟩ = some (.int .i64 0)) := ⟨fun wx hx => ⟨(HJ4.out.below hx HJ4.out.lt).c 0 rfl, (HP4.out.below hx HP4.out.lt).c 0 rfl⟩⟩
 have D4 : Keep (Below w4.heap.size w4 w4.drew) := ⟨(Below.refl _ _).drew⟩
 refine wp_region_held_drew (S := fun wx => wx.cell? ⟨g, 0, none⟩ = some (ptr d) ∧ wx.cell? ⟨q, 0, none⟩ = some (.int .i64 0)) (by kernel_rfl) (HS4.out _ D4.out) (fun hHeld => ?_)
 refine tkS (i := 0) (oi := ⟨some 58, Op.move (Operand.tmp 0), 22, _, _, none⟩) (v := .pointer (some ⟨g, 0, none⟩)) rfl (Or.inl ⟨by rfl, fun w hS => by obtain ⟨hS1, hS2⟩ := hS; go_simp⟩) hHeld ?_
 refine tkS (i := 1) (oi := ⟨some 59, Op.move (Operand.tmp 0), 22, _, _, none⟩) (v := .pointer (some ⟨g, 0, none⟩)) rfl (Or.inl ⟨by rfl, fun w hS => by obtain ⟨hS1, hS2⟩ := hS; go_simp⟩) hHeld ?_
 refine tkS (i := 2) (oi := ⟨some 60, Op.nilCheck (Operand.tmp 59), 0, _, _, none⟩) (v := .pointer (some ⟨g, 0, none⟩)) rfl (Or.inl ⟨by rfl, fun w hS => by obtain ⟨hS1, hS2⟩ := hS; go_simp⟩) hHeld ?_
 refine tkS (i := 3) (oi := ⟨some 61, Op.fieldAddr 61 (Operand.tmp 60) 0, 0, _, _, none⟩) (v := .pointer (some ⟨g, 0, none⟩)) rfl (Or.inl ⟨by rfl, fun w hS => by obtain ⟨hS1, hS2⟩ := hS; go_simp⟩) hHeld ?_
 refine tkS (i := 4) (oi := ⟨some 62, Op.load 30 (Operand.tmp 61), 30, _, _, none⟩) (v := .pointer (some ⟨d, 0, none⟩)) rfl (Or.inl ⟨by rfl, fun w hS => by obtain ⟨hS1, hS2⟩ := hS; go_simp⟩) hHeld ?_
 refine tkS (i := 5) (oi := ⟨some 63, Op.fieldAddr 79 (Operand.tmp 5) 0, 0, _, _, none⟩) (v := .pointer (some ⟨q, 0, none⟩)) rfl (Or.inl ⟨by rfl, fun w hS => by obtain ⟨hS1, hS2⟩ := hS; go_simp⟩) hHeld ?_
 refine tkS (i := 6) (oi := ⟨some 64, Op.load 3 (Operand.tmp 63), 3, _, _, none⟩) (v := .int .i64 0) rfl (Or.inl ⟨by rfl, fun w hS => by obtain ⟨hS1, hS2⟩ := hS; go_simp⟩) hHeld ?_
 refine tkS (i := 8) (oi := ⟨some 66, Op.move (Operand.tmp 1), 37, _, _, none⟩) (v := .slice ba l.length bc) rfl (Or.inl ⟨by rfl, fun w hS => by obtain ⟨hS1, hS2⟩ := hS; go_simp⟩) hHeld ?_
 refine wpAnyH_ready (rs := [7]) (by kernel_rfl) (by simp) ?_
 refine AllReadyH.cons (o := ⟨some 65, Op.call { callee := Callee.value (Operand.func 31), args := #[Operand.tmp 64], argTypes := #[3] }, 9, _, _, none⟩) rfl (fun K hK => ?_) AllReadyH.nil
 rw [if_pos (by rfl)]
 refine wp_callF 31 _ _ rfl Tryd.in31 #[.int .i64 ((0 : Nat) : Int)] (by simp [Act.eval]) (fun vz wz => vz = .string (nmS 0) ∧ Below w4.heap.size w4 wz) ?_ ?_
 ·refine (name_any 0 (by omega) w4.drew (HT4.out.below D4.out (Nat.lt_of_le_of_lt (Nat.zero_le _) HJ4.out.lt))).mono ?_
  rintro e wz ⟨rfl, h⟩
  exact ⟨_, rfl, rfl, D4.out.trans (h.mono D4.out.size)⟩
 rintro vz w5 ⟨rfl, h5⟩
 have B5 := Keep.mk h5
 clear h5
 obtain ⟨nn, hnn⟩ : ∃ s, Keep (s = nmS 0) := ⟨_, ⟨rfl⟩⟩
 rw [← hnn.out]
 refine hK _ _ (HS4.out _ B5.out) fun hH5 => ?_
 clear hK
 simp only [Act.put, pqA, pqB, pqC]
 refine wpAnyH_ready (rs := [9]) (by kernel_rfl) (by simp) ?_
 refine AllReadyH.cons (o := ⟨some 67, Op.call { callee := Callee.value (Operand.func 46), args := #[Operand.tmp 66], argTypes := #[37] }, 37, _, _, none⟩) rfl (fun K hK => ?_) AllReadyH.nil
 rw [if_pos (by rfl)]
 refine wp_callF 46 _ _ rfl Tryd.in46 #[.slice ba l.length bc] (by simp [Act.eval]) (fun vz wz => Own wz vz (hl 16 (hdF l) ++ l) ∧ (∀ k, vz.ownBlock = some k → w5.heap.size ≤ k) ∧ Below w5.heap.size w5 wz) ?_ ?_
 ·refine (frame_any _ l w5 (HR.out.below (B4.out.trans (B5.out.mono B4.out.size))) (by have := HL.out; omega)).mono ?_
  rintro e wz ⟨v6, rfl, h1, h2, h3⟩
  exact ⟨_, rfl, h1, h2, h3⟩
 rintro vz w6 ⟨h1, h2, h3⟩
 have HO6 := Keep.mk h1
 have N6 := Keep.mk h2
 have B6 : Keep (Below w4.heap.size w4 w6) := ⟨B5.out.trans (h3.mono B5.out.size)⟩
 have L6 : Keep (w4.heap.size ≤ w5.heap.size ∧ w.heap.size ≤ w4.heap.size) := ⟨B5.out.size, B4.out.size⟩
 clear h1 h2 h3
 obtain ⟨va, vn, vc, e6⟩ := HO6.out.sl
 subst e6
 refine hK _ _ (HS4.out _ B6.out) fun hH6 => ?_
 clear hK
 simp only [Act.put, pqA, pqB, pqC]
 refine wpAnyH_ready (rs := [10]) (by kernel_rfl) (by simp) ?_
 refine AllReadyH.cons (o := ⟨some 68, Op.call { callee := Callee.value (Operand.func 45), args := #[Operand.tmp 62, Operand.tmp 65, Operand.tmp 67], argTypes := #[30, 9, 37] }, 24, _, _, none⟩) rfl (fun K hK => ?_) AllReadyH.nil
 rw [if_pos (by rfl)]
 have BW6 : Keep (Below w.heap.size w w6) := ⟨B4.out.trans (B6.out.mono B4.out.size)⟩
 refine wp_callF 45 _ _ rfl Tryd.in45 #[ptr d, .string nn, .slice va vn vc] (by simp [Act.eval]) (fun vz wz => vz = .int .i64 0 ∧ ∃ vf' cs', DskAt wz p vf' cs' (D.appNew i nn (hl 16 (hdF l) ++ l)) ∧ (Grown w6 wz fun k => k = p) ∧ ∀ k, DskS p vf' cs' k → DskS p vf cs k ∨ w6.heap.size ≤ k) ?_ ?_
 ·refine (append_new d p i nn (.slice va vn vc) vf (hl 16 (hdF l) ++ l) cs D w6 (HDk.out.below BW6.out HDk.out.lt) (HD.out.below BW6.out) HO.out (by rw [hnn.out]; exact nm0_rgt) (by rw [hnn.out]; exact HF.out) HC.out (by have := HU.out; simp [hl_len]; omega) HA.out HFu.out HO6.out.row (fun k hk e => by have := N6.out k hk; have := L6.out; have := HD.out.blk.lt; omega)).mono ?_
  rintro e wz ⟨rfl, vf1, cs1, h1, h2, h3⟩
  exact ⟨_, rfl, rfl, vf1, cs1, h1, h2, h3⟩
 rintro vz w7 ⟨rfl, vf', cs', h1, h2, h3⟩
 have HD7 := Keep.mk h1
 have G7 := Keep.mk h2
 have N7 : Keep (∀ k, DskS p vf' cs' k → DskS p vf cs k ∨ w.heap.size ≤ k) := ⟨fun k hk => (h3 k hk).imp id fun h => by have := BW6.out.size; omega⟩
 clear h1 h2 h3
 have HJ7 : Keep (Blk w7 g 61 (jA d (.slice pa pl.length pc) (-1) sz la false)) := ⟨G7.out.blk (HJ4.out.below B6.out HJ4.out.lt) (fun e => by subst e; have := HJ.out.typ.one HD.out.blk.typ; revert this; decide)⟩
 have HP7 : Keep (Blk w7 q 79 #[.int .i64 (0), .int .i64 (0)]) := ⟨G7.out.blk (HP4.out.below B6.out HP4.out.lt) (fun e => by have := hqw.out; have := HD.out.blk.lt; omega)⟩
 have HO7 : Keep (OwnP w7 (.slice pa pl.length pc) pl) := ⟨(HPl.out.grown (Grown.below (S := fun _ => False) BW6.out) fun _ _ h => h).grown G7.out fun k hk e => HPp.out k hk e⟩
 have GW7 : Keep (Grown w w7 fun k => k = p) := ⟨(Grown.below BW6.out).trans G7.out⟩
 refine hK _ _ (⟨HJ7.out.c 0 rfl, HP7.out.c 0 rfl⟩) fun hH7 => ?_
 clear hK
 simp only [Act.put, pqA, pqB, pqC]
 refine wpAnyH_ready (rs := [11]) (by kernel_rfl) (by simp) ?_
 refine AllReadyH.cons (o := ⟨some 69, Op.call { callee := Callee.value (Operand.func 29), args := #[Operand.tmp 58, Operand.tmp 68], argTypes := #[22, 24] }, 24, _, _, none⟩) rfl (fun K hK => ?_) AllReadyH.nil
 rw [if_pos (by rfl)]
 refine wp_callF 29 _ _ rfl Tryd.in29 #[ptr g, .int .i64 0] (by simp [Act.eval]) (fun vz wz => vz = .int .i64 0 ∧ w7 = wz) ?_ ?_
 ·refine (told_ok g 0 (by omega) w7).mono ?_
  rintro e wz ⟨rfl, h⟩
  exact ⟨_, rfl, rfl, h.symm⟩
 rintro vz wy ⟨rfl, hy⟩
 subst hy
 refine hK _ _ (⟨HJ7.out.c 0 rfl, HP7.out.c 0 rfl⟩) fun hH8 => ?_
 clear hK
 simp only [Act.put, pqA, pqB, pqC]
 refine tkS (i := 12) (oi := ⟨some 7, Op.assign (Operand.tmp 69), 24, _, _, none⟩) (v := .int .i64 0) rfl (Or.inl ⟨by rfl, fun w hS => by obtain ⟨hS1, hS2⟩ := hS; go_simp⟩) hH8 ?_
 refine wpAnyH_done (by kernel_rfl) ?_ _
 refine hK11 _ _ ?_
 refine wp_seq_k fun K12 hK12 => ?_
 refine wp_seq_k fun K13 hK13 => rgn ?_
 refine VlS (.int .i64 0) ?_
 refine VlS (.bool false) ?_
 refine WL.nil (hK13 _ _ ?_)
 refine wp_cond_false rfl ?_
 refine wp_skip ?_
 refine hK12 _ _ ?_
 refine wp_seq_k fun K14 hK14 => ?_
 refine wp_seq_k fun K15 hK15 => rgn ?_
 refine VlS (.int .i64 0) ?_
 refine VlS (.bool false) ?_
 refine WL.nil (hK15 _ _ ?_)
 refine wp_cond_false rfl ?_
 refine wp_skip ?_
 refine hK14 _ _ ?_
 refine wp_seq_k fun K16 hK16 => ?_
 have HJ8 : Keep (Blk w7.drew g 61 (jA d (.slice pa pl.length pc) (-1) sz la false)) := ⟨HJ7.out.drew⟩
 have HP8 : Keep (Blk w7.drew q 79 #[.int .i64 (0), .int .i64 (0)]) := ⟨HP7.out.drew⟩
 have HO8 : Keep (OwnP w7.drew (.slice pa pl.length pc) pl) := ⟨HO7.out⟩
 have HD8 : Keep (DskAt w7.drew p vf' cs' (D.appNew i nn (hl 16 (hdF l) ++ l))) := ⟨HD7.out.grown (Grown.refl w7 (fun _ => False)).drew fun _ _ h => h⟩
 have GW8 : Keep (Grown w w7.drew fun k => k = p) := ⟨GW7.out.drew⟩
 clear HJ7 HP7 HO7 HD7 GW7 HJ4 HP4 HS4 HT4 G7 B6 B5 BW6 HO6 N6 L6 D4
 refine wp_region_held_drew (S := fun wx => Blk wx q 79 #[.int .i64 (0), .int .i64 (0)]) (by kernel_rfl) (HP8.out) (fun hHeld => ?_)
 generalize w7.drew = w8 at *
 refine tkS (i := 0) (oi := ⟨some 75, Op.move (Operand.tmp 0), 22, _, _, none⟩) (v := .pointer (some ⟨g, 0, none⟩)) rfl (Or.inl ⟨by rfl, fun w hS => by go_simp⟩) hHeld ?_
 refine tkS (i := 1) (oi := ⟨some 76, Op.move (Operand.tmp 0), 22, _, _, none⟩) (v := .pointer (some ⟨g, 0, none⟩)) rfl (Or.inl ⟨by rfl, fun w hS => by go_simp⟩) hHeld ?_
 refine tkS (i := 2) (oi := ⟨some 77, Op.nilCheck (Operand.tmp 76), 0, _, _, none⟩) (v := .pointer (some ⟨g, 0, none⟩)) rfl (Or.inl ⟨by rfl, fun w hS => by go_simp⟩) hHeld ?_
 refine tkS (i := 3) (oi := ⟨some 78, Op.fieldAddr 61 (Operand.tmp 77) 1, 0, _, _, none⟩) (v := .pointer (some ⟨g, 1, none⟩)) rfl (Or.inl ⟨by rfl, fun w hS => by go_simp⟩) hHeld ?_
 refine tkS (i := 5) (oi := ⟨some 80, Op.load 79 (Operand.tmp 5), 79, _, _, none⟩) (v := .agg #[.int .i64 (0), .int .i64 (0)]) rfl (yieldsIf_load_mid (by rfl) 79 (.tmp 5) rfl q 0 rfl (#[.int .i64 (0), .int .i64 (0)] : Array Value).toList _ (fun w hS => blk_range hS) Tryd.underlying79 rfl (by kernel_rfl)) hHeld ?_
 refine wpAnyH_ready (rs := [4, 6]) (by kernel_rfl) (by simp) ?_
 refine AllReadyH.cons (o := ⟨some 79, Op.load 59 (Operand.tmp 78), 59, _, _, none⟩) rfl (fun K hK => ?_) (AllReadyH.cons (o := ⟨some 81, Op.buildSlice 59 1 #[(0, Operand.tmp 80)], 59, _, _, none⟩) rfl (fun K hK => ?_) AllReadyH.nil)
 all_goals rw [if_pos (by rfl)]
 ·have cl : w8.cell? ⟨g, 1, none⟩ = some (.slice pa pl.length pc) := HJ8.out.c 1 rfl
  refine wp_val (.slice pa pl.length pc) (by go_simp) ?_
  clear cl
  refine hK _ _ (HP8.out) fun hL8 => ?_
  clear hK
  simp only [Act.put, pqA, pqB, pqC]
  refine wpAnyH_ready (rs := [6]) (by kernel_rfl) (by simp) ?_
  refine AllReadyH.cons (o := ⟨some 81, Op.buildSlice 59 1 #[(0, Operand.tmp 80)], 59, _, _, none⟩) rfl (fun K hK => ?_) AllReadyH.nil
  rw [if_pos (by rfl)]
  refine wp_bs 59 1 _ rfl #[(0, .agg #[.int .i64 (0), .int .i64 (0)])] (by simp [Act.eval]) _ _ (bsP 0 0 w8) ?_
  have hbx := below_new w8 (.cells #[.int .i64 (0), .int .i64 (0)] 79)
  have HN9 := Keep.mk (Blk.new w8 79 #[.int .i64 (0), .int .i64 (0)])
  have HJ9 := Keep.mk (HJ8.out.below hbx HJ8.out.lt)
  have HP9 := Keep.mk (HP8.out.below hbx HP8.out.lt)
  have HO9 := Keep.mk (HO8.out.grown (Grown.below (S := fun _ => False) hbx) fun _ _ h => h)
  have HD9 := Keep.mk (HD8.out.below hbx)
  have GW9 : Keep (Grown w (w8.alloc (.cells #[.int .i64 (0), .int .i64 (0)] 79)) fun k => k = p) := ⟨GW8.out.trans (Grown.below hbx)⟩
  clear hbx
  generalize w8.alloc (.cells #[.int .i64 (0), .int .i64 (0)] 79) = w9 at *
  obtain ⟨g9, hg9⟩ : ∃ p, Keep (p = w8.heap.size) := ⟨_, ⟨rfl⟩⟩
  rw [← hg9.out] at HN9 ⊢
  refine hK _ _ (HP9.out) fun hB9 => ?_
  clear hK
  simp only [Act.put, pqA, pqB, pqC]
  refine wpAnyH_ready (rs := [7]) (by kernel_rfl) (by simp) ?_
  refine AllReadyH.cons (o := ⟨some 82, Op.call { callee := Callee.builtin Builtin.append, args := #[Operand.tmp 79, Operand.tmp 81], argTypes := #[59, 59] }, 59, _, _, none⟩) rfl (fun K hK => ?_) AllReadyH.nil
  rw [if_pos (by rfl)]
  refine wp_appP (.tmp 79) (.tmp 81) rfl (.slice pa pl.length pc) pl g9 1 (0, 0) rfl rfl HO9.out HN9.out (by have := HPn.out; omega) fun v10 w10 h1 h2 h3 => ?_
  have HO10 := Keep.mk h1
  have M10 : Keep (∀ k, v10.ownBlock = some k → (Value.slice pa pl.length pc).ownBlock = some k ∨ w.heap.size ≤ k) := ⟨fun k hk => by rcases h3 with e | ⟨j, e, hj⟩ <;> rw [hk] at e; exact .inl e.symm; right; have := Option.some.inj e; have := GW9.out.size; omega⟩
  have HJ10 : Keep (Blk w10 g 61 (jA d (.slice pa pl.length pc) (-1) sz la false)) := ⟨h2.blk HJ9.out fun e => HPg.out g e rfl⟩
  have HP10 : Keep (Blk w10 q 79 #[.int .i64 (0), .int .i64 (0)]) := ⟨h2.blk HP9.out fun e => by have := HPw.out q e; have := hqw.out; omega⟩
  have HD10 : Keep (DskAt w10 p vf' cs' (D.appNew i nn (hl 16 (hdF l) ++ l))) := ⟨HD9.out.grown h2 fun k hk e => by have ht := HO9.out.typ e; rcases hk with h | h | h <;> (have := h.one ht; revert this; decide)⟩
  have GW10 : Keep (Grown w w10 fun k => k = p ∨ k = g ∨ (Value.slice pa pl.length pc).ownBlock = some k) := ⟨(GW9.out.mono fun k _ e => .inl e).next h2 fun k _ e => .inr (.inr e)⟩
  clear h1 h2 h3
  obtain ⟨a10, c10, e10⟩ := HO10.out.sl
  subst e10
  obtain ⟨n10, hn10⟩ : ∃ q, Keep (q = (pl ++ [(0, 0)]).length) := ⟨_, ⟨rfl⟩⟩
  rw [← hn10.out] at HO10 M10 ⊢
  refine hK _ _ (HP10.out) fun hA10 => ?_
  clear hK
  simp only [Act.put, pqA, pqB, pqC]
  refine tkS (i := 8) (oi := ⟨some 83, Op.nilCheck (Operand.tmp 75), 0, _, _, none⟩) (v := .pointer (some ⟨g, 0, none⟩)) rfl (Or.inl ⟨by rfl, fun w hS => by go_simp⟩) hA10 ?_
  refine tkS (i := 9) (oi := ⟨some 84, Op.fieldAddr 61 (Operand.tmp 83) 1, 0, _, _, none⟩) (v := .pointer (some ⟨g, 1, none⟩)) rfl (Or.inl ⟨by rfl, fun w hS => by go_simp⟩) hA10 ?_
  refine wpAnyH_ready (rs := [10]) (by kernel_rfl) (by simp) ?_
  refine AllReadyH.cons (o := ⟨none, Op.store 59 (Operand.tmp 84) (Operand.tmp 82), 0, _, _, none⟩) rfl (fun K hK => ?_) AllReadyH.nil
  rw [if_pos (by rfl)]
  have f_o := HJ10.out.frozen 1
  have cl : w10.cell? ⟨g, 1, none⟩ = some (.slice pa pl.length pc) := HJ10.out.c 1 rfl
  refine wp_cellS (w10.setCell ⟨g, 1, none⟩ (.slice a10 n10 c10)) (by go_simp) ?_
  clear f_o cl
  have HJ11 : Keep (Blk (w10.setCell ⟨g, 1, none⟩ (.slice a10 n10 c10)) g 61 (jA d (.slice a10 n10 c10) (-1) sz la false)) := ⟨HJ10.out.set 1 (.slice a10 n10 c10)⟩
  have hgs : Grown w10 (w10.setCell ⟨g, 1, none⟩ (.slice a10 n10 c10)) fun k => k = g := Grown.setCell w10 g 1 _ fun _ => rfl
  have HP11 : Keep (Blk (w10.setCell ⟨g, 1, none⟩ (.slice a10 n10 c10)) q 79 #[.int .i64 (0), .int .i64 (0)]) := ⟨hgs.blk HP10.out fun e => by have := hqw.out; have := HJ.out.lt; omega⟩
  have HO11 : Keep (OwnP (w10.setCell ⟨g, 1, none⟩ (.slice a10 n10 c10)) (.slice a10 n10 c10) (pl ++ [(0, 0)])) := ⟨HO10.out.grown hgs fun k hk e => by subst e; rcases M10.out _ hk with h | h; exact HPg.out _ h rfl; have := HJ.out.lt; omega⟩
  have HD11 : Keep (DskAt (w10.setCell ⟨g, 1, none⟩ (.slice a10 n10 c10)) p vf' cs' (D.appNew i nn (hl 16 (hdF l) ++ l))) := ⟨HD10.out.grown hgs fun k hk e => by subst e; have hj := HJ10.out.typ; rcases hk with h | h | h <;> (have := h.one hj; revert this; decide)⟩
  have GW11 : Keep (Grown w (w10.setCell ⟨g, 1, none⟩ (.slice a10 n10 c10)) fun k => k = p ∨ k = g ∨ (Value.slice pa pl.length pc).ownBlock = some k) := ⟨GW10.out.next hgs fun k _ e => .inr (.inl e)⟩
  clear hgs HJ10 HP10 HO10 HD10 GW10
  generalize w10.setCell ⟨g, 1, none⟩ (.slice a10 n10 c10) = w11 at *
  refine hK _ _ (HP11.out) fun hS11 => ?_
  clear hK
  simp only [Act.put, pqA, pqB, pqC]
  refine wpAnyH_done (by kernel_rfl) ?_ _
  refine hK16 _ _ ?_
  refine wp_seq_k fun K17 hK17 => ?_
  have HP12 : Keep (Blk w11.drew q 79 #[.int .i64 (0), .int .i64 (0)]) := ⟨HP11.out.drew⟩
  have HJ12 : Keep (Blk w11.drew g 61 (jA d (.slice a10 n10 c10) (-1) sz la false)) := ⟨HJ11.out.drew⟩
  have hwl : IntKind.i64.wrap (16 + (l.length : Int)) = 16 + (l.length : Int) := by rw [IntKind.wrap_i64]; have := HL.out; omega
  have hw16 : IntKind.i64.wrap 16 = 16 := by rw [IntKind.wrap_i64]; rfl
  refine wp_region_held_drew (S := fun wx => Blk wx q 79 #[.int .i64 (0), .int .i64 (0)]) (by kernel_rfl) (HP12.out) (fun hHeld => ?_)
  refine tkS (i := 0) (oi := ⟨some 85, Op.move (Operand.tmp 0), 22, _, _, none⟩) (v := .pointer (some ⟨g, 0, none⟩)) rfl (Or.inl ⟨by rfl, fun w hS => by have q0 := hS.c 0 (by rfl : (#[.int .i64 (0), .int .i64 (0)] : Array Value)[0]? = some (.int .i64 0)); have q1 := hS.c 1 (by rfl : (#[.int .i64 (0), .int .i64 (0)] : Array Value)[1]? = some (.int .i64 0)); go_simp⟩) hHeld ?_
  refine tkS (i := 1) (oi := ⟨some 86, Op.move (Operand.tmp 0), 22, _, _, none⟩) (v := .pointer (some ⟨g, 0, none⟩)) rfl (Or.inl ⟨by rfl, fun w hS => by have q0 := hS.c 0 (by rfl : (#[.int .i64 (0), .int .i64 (0)] : Array Value)[0]? = some (.int .i64 0)); have q1 := hS.c 1 (by rfl : (#[.int .i64 (0), .int .i64 (0)] : Array Value)[1]? = some (.int .i64 0)); go_simp⟩) hHeld ?_
  refine tkS (i := 2) (oi := ⟨some 87, Op.fieldAddr 79 (Operand.tmp 5) 0, 0, _, _, none⟩) (v := .pointer (some ⟨q, 0, none⟩)) rfl (Or.inl ⟨by rfl, fun w hS => by have q0 := hS.c 0 (by rfl : (#[.int .i64 (0), .int .i64 (0)] : Array Value)[0]? = some (.int .i64 0)); have q1 := hS.c 1 (by rfl : (#[.int .i64 (0), .int .i64 (0)] : Array Value)[1]? = some (.int .i64 0)); go_simp⟩) hHeld ?_
  refine tkS (i := 3) (oi := ⟨some 88, Op.load 3 (Operand.tmp 87), 3, _, _, none⟩) (v := .int .i64 0) rfl (Or.inl ⟨by rfl, fun w hS => by have q0 := hS.c 0 (by rfl : (#[.int .i64 (0), .int .i64 (0)] : Array Value)[0]? = some (.int .i64 0)); have q1 := hS.c 1 (by rfl : (#[.int .i64 (0), .int .i64 (0)] : Array Value)[1]? = some (.int .i64 0)); go_simp⟩) hHeld ?_
  refine tkS (i := 4) (oi := ⟨some 89, Op.fieldAddr 79 (Operand.tmp 5) 1, 0, _, _, none⟩) (v := .pointer (some ⟨q, 1, none⟩)) rfl (Or.inl ⟨by rfl, fun w hS => by have q0 := hS.c 0 (by rfl : (#[.int .i64 (0), .int .i64 (0)] : Array Value)[0]? = some (.int .i64 0)); have q1 := hS.c 1 (by rfl : (#[.int .i64 (0), .int .i64 (0)] : Array Value)[1]? = some (.int .i64 0)); go_simp⟩) hHeld ?_
  refine tkS (i := 5) (oi := ⟨some 90, Op.load 3 (Operand.tmp 89), 3, _, _, none⟩) (v := .int .i64 0) rfl (Or.inl ⟨by rfl, fun w hS => by have q0 := hS.c 0 (by rfl : (#[.int .i64 (0), .int .i64 (0)] : Array Value)[0]? = some (.int .i64 0)); have q1 := hS.c 1 (by rfl : (#[.int .i64 (0), .int .i64 (0)] : Array Value)[1]? = some (.int .i64 0)); go_simp⟩) hHeld ?_
  refine tkS (i := 6) (oi := ⟨some 91, Op.binOp BinOp.add 3 (Operand.tmp 90) (Operand.const (Value.int IntKind.i64 16)) 3, 3, _, _, none⟩) (v := .int .i64 16) rfl (Or.inl ⟨by rfl, fun w hS => by have q0 := hS.c 0 (by rfl : (#[.int .i64 (0), .int .i64 (0)] : Array Value)[0]? = some (.int .i64 0)); have q1 := hS.c 1 (by rfl : (#[.int .i64 (0), .int .i64 (0)] : Array Value)[1]? = some (.int .i64 0)); go_simp⟩) hHeld ?_
  refine tkS (i := 7) (oi := ⟨some 92, Op.move (Operand.tmp 1), 37, _, _, none⟩) (v := .slice ba l.length bc) rfl (Or.inl ⟨by rfl, fun w hS => by have q0 := hS.c 0 (by rfl : (#[.int .i64 (0), .int .i64 (0)] : Array Value)[0]? = some (.int .i64 0)); have q1 := hS.c 1 (by rfl : (#[.int .i64 (0), .int .i64 (0)] : Array Value)[1]? = some (.int .i64 0)); go_simp⟩) hHeld ?_
  refine tkS (i := 8) (oi := ⟨some 93, Op.call { callee := Callee.builtin Builtin.len, args := #[Operand.tmp 92], argTypes := #[37] }, 3, _, _, none⟩) (v := .int .i64 (l.length : Int)) rfl (Or.inl ⟨by rfl, fun w hS => by have q0 := hS.c 0 (by rfl : (#[.int .i64 (0), .int .i64 (0)] : Array Value)[0]? = some (.int .i64 0)); have q1 := hS.c 1 (by rfl : (#[.int .i64 (0), .int .i64 (0)] : Array Value)[1]? = some (.int .i64 0)); go_simp⟩) hHeld ?_
  refine tkS (i := 9) (oi := ⟨some 94, Op.binOp BinOp.add 3 (Operand.tmp 91) (Operand.tmp 93) 3, 3, _, _, none⟩) (v := .int .i64 (16 + (l.length : Int))) rfl (Or.inl ⟨by rfl, fun w hS => by have q0 := hS.c 0 (by rfl : (#[.int .i64 (0), .int .i64 (0)] : Array Value)[0]? = some (.int .i64 0)); have q1 := hS.c 1 (by rfl : (#[.int .i64 (0), .int .i64 (0)] : Array Value)[1]? = some (.int .i64 0)); go_simp⟩) hHeld ?_
  refine tkS (i := 10) (oi := ⟨some 95, Op.nilCheck (Operand.tmp 85), 0, _, _, none⟩) (v := .pointer (some ⟨g, 0, none⟩)) rfl (Or.inl ⟨by rfl, fun w hS => by have q0 := hS.c 0 (by rfl : (#[.int .i64 (0), .int .i64 (0)] : Array Value)[0]? = some (.int .i64 0)); have q1 := hS.c 1 (by rfl : (#[.int .i64 (0), .int .i64 (0)] : Array Value)[1]? = some (.int .i64 0)); go_simp⟩) hHeld ?_
  refine tkS (i := 11) (oi := ⟨some 96, Op.fieldAddr 61 (Operand.tmp 95) 2, 0, _, _, none⟩) (v := .pointer (some ⟨g, 2, none⟩)) rfl (Or.inl ⟨by rfl, fun w hS => by have q0 := hS.c 0 (by rfl : (#[.int .i64 (0), .int .i64 (0)] : Array Value)[0]? = some (.int .i64 0)); have q1 := hS.c 1 (by rfl : (#[.int .i64 (0), .int .i64 (0)] : Array Value)[1]? = some (.int .i64 0)); go_simp⟩) hHeld ?_
  refine wpAnyH_ready (rs := [12]) (by kernel_rfl) (by simp) ?_
  refine AllReadyH.cons (o := ⟨none, Op.store 3 (Operand.tmp 96) (Operand.tmp 88), 0, _, _, none⟩) rfl (fun K hK => ?_) AllReadyH.nil
  rw [if_pos (by rfl)]
  have f_o := HJ12.out.frozen 2
  have cl : w11.drew.cell? ⟨g, 2, none⟩ = some (.int .i64 (-1)) := HJ12.out.c 2 rfl
  refine wp_cellS (w11.drew.setCell ⟨g, 2, none⟩ (.int .i64 0)) (by go_simp) ?_
  clear f_o cl
  have HJ13 : Keep (Blk (w11.drew.setCell ⟨g, 2, none⟩ (.int .i64 0)) g 61 (jA d (.slice a10 n10 c10) 0 sz la false)) := ⟨HJ12.out.set 2 _⟩
  have HP13 : Keep (Blk (w11.drew.setCell ⟨g, 2, none⟩ (.int .i64 0)) q 79 #[.int .i64 (0), .int .i64 (0)]) := ⟨HP12.out.set_ne (fun e => by have := hqw.out; have := HJ.out.lt; omega) _⟩
  have G13 : Keep (Grown w11 (w11.drew.setCell ⟨g, 2, none⟩ (.int .i64 0)) fun k => k = g) := ⟨(Grown.refl w11 (fun k => k = g)).drew.trans (Grown.setCell w11.drew g 2 _ fun _ => rfl)⟩
  generalize w11.drew.setCell ⟨g, 2, none⟩ (.int .i64 0) = w13 at *
  refine hK _ _ HP13.out fun hA12 => ?_
  clear hK
  simp only [Act.put, pqA, pqB, pqC]
  refine tkS (i := 13) (oi := ⟨some 97, Op.nilCheck (Operand.tmp 86), 0, _, _, none⟩) (v := .pointer (some ⟨g, 0, none⟩)) rfl (Or.inl ⟨by rfl, fun w hS => by have q0 := hS.c 0 (by rfl : (#[.int .i64 (0), .int .i64 (0)] : Array Value)[0]? = some (.int .i64 0)); have q1 := hS.c 1 (by rfl : (#[.int .i64 (0), .int .i64 (0)] : Array Value)[1]? = some (.int .i64 0)); go_simp⟩) hA12 ?_
  refine tkS (i := 14) (oi := ⟨some 98, Op.fieldAddr 61 (Operand.tmp 97) 3, 0, _, _, none⟩) (v := .pointer (some ⟨g, 3, none⟩)) rfl (Or.inl ⟨by rfl, fun w hS => by have q0 := hS.c 0 (by rfl : (#[.int .i64 (0), .int .i64 (0)] : Array Value)[0]? = some (.int .i64 0)); have q1 := hS.c 1 (by rfl : (#[.int .i64 (0), .int .i64 (0)] : Array Value)[1]? = some (.int .i64 0)); go_simp⟩) hA12 ?_
  refine wpAnyH_ready (rs := [15]) (by kernel_rfl) (by simp) ?_
  refine AllReadyH.cons (o := ⟨none, Op.store 3 (Operand.tmp 98) (Operand.tmp 94), 0, _, _, none⟩) rfl (fun K hK => ?_) AllReadyH.nil
  rw [if_pos (by rfl)]
  have f_o := HJ13.out.frozen 3
  have cl : w13.cell? ⟨g, 3, none⟩ = some (.int .i64 sz) := HJ13.out.c 3 rfl
  refine wp_cellS (w13.setCell ⟨g, 3, none⟩ (.int .i64 (16 + (l.length : Int)))) (by go_simp) ?_
  clear f_o cl
  have HJ14 : Keep (Blk (w13.setCell ⟨g, 3, none⟩ (.int .i64 (16 + (l.length : Int)))) g 61 (jA d (.slice a10 n10 c10) 0 (16 + (l.length : Int)) la false)) := ⟨HJ13.out.set 3 _⟩
  have HP14 : Keep (Blk (w13.setCell ⟨g, 3, none⟩ (.int .i64 (16 + (l.length : Int)))) q 79 #[.int .i64 (0), .int .i64 (0)]) := ⟨HP13.out.set_ne (fun e => by have := hqw.out; have := HJ.out.lt; omega) _⟩
  have G14 : Keep (Grown w11 (w13.setCell ⟨g, 3, none⟩ (.int .i64 (16 + (l.length : Int)))) fun k => k = g) := ⟨G13.out.trans (Grown.setCell w13 g 3 _ fun _ => rfl)⟩
  have HJ11t : Keep (Typ w11 g 61) := ⟨HJ11.out.typ⟩
  clear HJ12 HP12 HJ13 HP13 HJ11 hwl hw16
  generalize w13.setCell ⟨g, 3, none⟩ (.int .i64 (16 + (l.length : Int))) = w14 at *
  refine hK _ _ HP14.out fun hA13 => ?_
  clear hK
  have f_o := HJ14.out.frozen 4
  have cl : w14.cell? ⟨g, 4, none⟩ = some (.bool la) := HJ14.out.c 4 rfl
  simp only [Act.put, pqA, pqB, pqC]
  refine wpAnyH_done (by kernel_rfl) ?_ _
  refine hK17 _ _ ?_
  refine wp_seq_k fun K18 hK18 => rgn ?_
  refine VlS (.pointer (some ⟨g, 0, none⟩)) ?_
  refine VlS (.pointer (some ⟨g, 0, none⟩)) ?_
  refine VlS (.pointer (some ⟨g, 4, none⟩)) ?_
  refine WL.cell (by kernel_rfl) (w14.setCell ⟨g, 4, none⟩ (.bool true)) (by go_simp) ?_
  clear f_o cl
  have HJ15 : Keep (Blk (w14.setCell ⟨g, 4, none⟩ (.bool true)) g 61 (jA d (.slice a10 n10 c10) 0 (16 + (l.length : Int)) true false)) := ⟨HJ14.out.set 4 _⟩
  have G15 : Keep (Grown w11 (w14.setCell ⟨g, 4, none⟩ (.bool true)) fun k => k = g) := ⟨G14.out.trans (Grown.setCell w14 g 4 _ fun _ => rfl)⟩
  clear HJ14 G14
  generalize w14.setCell ⟨g, 4, none⟩ (.bool true) = w15 at *
  simp only [Act.put]
  refine WL.nil (hK18 _ _ ?_)
  refine wp_seq_k fun K19 hK19 => rgn ?_
  refine VlS (.int .i64 0) ?_
  refine WL.nil (hK19 _ _ ?_)
  refine wp_ret ?_
  go_ret
  refine ⟨rfl, .slice a10 n10 c10, vf', cs', HJ15.out, HO11.out.grown G15.out fun k hk e => ?_, ?_, GW11.out.next G15.out fun k _ e => .inr (.inl e), N7.out, M10.out⟩
  ·subst e; rcases M10.out _ hk with h | h; exact HPg.out _ h rfl; have := HJ.out.lt; omega
  ·rw [hnn.out] at HD11; exact HD11.out.grown G15.out fun k hk e => by subst e; have hj := HJ11t.out; rcases hk with h | h | h <;> (have := h.one hj; revert this; decide)
 ·refine wp_bs 59 1 _ rfl #[(0, .agg #[.int .i64 (0), .int .i64 (0)])] (by simp [Act.eval]) _ _ (bsP 0 0 w8) ?_
  have hbx := below_new w8 (.cells #[.int .i64 (0), .int .i64 (0)] 79)
  have HN9 := Keep.mk (Blk.new w8 79 #[.int .i64 (0), .int .i64 (0)])
  have HJ9 := Keep.mk (HJ8.out.below hbx HJ8.out.lt)
  have HP9 := Keep.mk (HP8.out.below hbx HP8.out.lt)
  have HO9 := Keep.mk (HO8.out.grown (Grown.below (S := fun _ => False) hbx) fun _ _ h => h)
  have HD9 := Keep.mk (HD8.out.below hbx)
  have GW9 : Keep (Grown w (w8.alloc (.cells #[.int .i64 (0), .int .i64 (0)] 79)) fun k => k = p) := ⟨GW8.out.trans (Grown.below hbx)⟩
  clear hbx
  generalize w8.alloc (.cells #[.int .i64 (0), .int .i64 (0)] 79) = w9 at *
  obtain ⟨g9, hg9⟩ : ∃ p, Keep (p = w8.heap.size) := ⟨_, ⟨rfl⟩⟩
  rw [← hg9.out] at HN9 ⊢
  refine hK _ _ (HP9.out) fun hB9 => ?_
  clear hK
  simp only [Act.put, pqA, pqB, pqC]
  refine wpAnyH_ready (rs := [4]) (by kernel_rfl) (by simp) ?_
  refine AllReadyH.cons (o := ⟨some 79, Op.load 59 (Operand.tmp 78), 59, _, _, none⟩) rfl (fun K hK => ?_) AllReadyH.nil
  rw [if_pos (by rfl)]
  have cl : w9.cell? ⟨g, 1, none⟩ = some (.slice pa pl.length pc) := HJ9.out.c 1 rfl
  refine wp_val (.slice pa pl.length pc) (by go_simp) ?_
  clear cl
  refine hK _ _ (HP9.out) fun hL9 => ?_
  clear hK
  simp only [Act.put, pqA, pqB, pqC]
  refine wpAnyH_ready (rs := [7]) (by kernel_rfl) (by simp) ?_
  refine AllReadyH.cons (o := ⟨some 82, Op.call { callee := Callee.builtin Builtin.append, args := #[Operand.tmp 79, Operand.tmp 81], argTypes := #[59, 59] }, 59, _, _, none⟩) rfl (fun K hK => ?_) AllReadyH.nil
  rw [if_pos (by rfl)]
  refine wp_appP (.tmp 79) (.tmp 81) rfl (.slice pa pl.length pc) pl g9 1 (0, 0) rfl rfl HO9.out HN9.out (by have := HPn.out; omega) fun v10 w10 h1 h2 h3 => ?_
  have HO10 := Keep.mk h1
  have M10 : Keep (∀ k, v10.ownBlock = some k → (Value.slice pa pl.length pc).ownBlock = some k ∨ w.heap.size ≤ k) := ⟨fun k hk => by rcases h3 with e | ⟨j, e, hj⟩ <;> rw [hk] at e; exact .inl e.symm; right; have := Option.some.inj e; have := GW9.out.size; omega⟩
  have HJ10 : Keep (Blk w10 g 61 (jA d (.slice pa pl.length pc) (-1) sz la false)) := ⟨h2.blk HJ9.out fun e => HPg.out g e rfl⟩
  have HP10 : Keep (Blk w10 q 79 #[.int .i64 (0), .int .i64 (0)]) := ⟨h2.blk HP9.out fun e => by have := HPw.out q e; have := hqw.out; omega⟩
  have HD10 : Keep (DskAt w10 p vf' cs' (D.appNew i nn (hl 16 (hdF l) ++ l))) := ⟨HD9.out.grown h2 fun k hk e => by have ht := HO9.out.typ e; rcases hk with h | h | h <;> (have := h.one ht; revert this; decide)⟩
  have GW10 : Keep (Grown w w10 fun k => k = p ∨ k = g ∨ (Value.slice pa pl.length pc).ownBlock = some k) := ⟨(GW9.out.mono fun k _ e => .inl e).next h2 fun k _ e => .inr (.inr e)⟩
  clear h1 h2 h3
  obtain ⟨a10, c10, e10⟩ := HO10.out.sl
  subst e10
  obtain ⟨n10, hn10⟩ : ∃ q, Keep (q = (pl ++ [(0, 0)]).length) := ⟨_, ⟨rfl⟩⟩
  rw [← hn10.out] at HO10 M10 ⊢
  refine hK _ _ (HP10.out) fun hA10 => ?_
  clear hK
  simp only [Act.put, pqA, pqB, pqC]
  refine tkS (i := 8) (oi := ⟨some 83, Op.nilCheck (Operand.tmp 75), 0, _, _, none⟩) (v := .pointer (some ⟨g, 0, none⟩)) rfl (Or.inl ⟨by rfl, fun w hS => by go_simp⟩) hA10 ?_
  refine tkS (i := 9) (oi := ⟨some 84, Op.fieldAddr 61 (Operand.tmp 83) 1, 0, _, _, none⟩) (v := .pointer (some ⟨g, 1, none⟩)) rfl (Or.inl ⟨by rfl, fun w hS => by go_simp⟩) hA10 ?_
  refine wpAnyH_ready (rs := [10]) (by kernel_rfl) (by simp) ?_
  refine AllReadyH.cons (o := ⟨none, Op.store 59 (Operand.tmp 84) (Operand.tmp 82), 0, _, _, none⟩) rfl (fun K hK => ?_) AllReadyH.nil
  rw [if_pos (by rfl)]
  have f_o := HJ10.out.frozen 1
  have cl : w10.cell? ⟨g, 1, none⟩ = some (.slice pa pl.length pc) := HJ10.out.c 1 rfl
  refine wp_cellS (w10.setCell ⟨g, 1, none⟩ (.slice a10 n10 c10)) (by go_simp) ?_
  clear f_o cl
  have HJ11 : Keep (Blk (w10.setCell ⟨g, 1, none⟩ (.slice a10 n10 c10)) g 61 (jA d (.slice a10 n10 c10) (-1) sz la false)) := ⟨HJ10.out.set 1 (.slice a10 n10 c10)⟩
  have hgs : Grown w10 (w10.setCell ⟨g, 1, none⟩ (.slice a10 n10 c10)) fun k => k = g := Grown.setCell w10 g 1 _ fun _ => rfl
  have HP11 : Keep (Blk (w10.setCell ⟨g, 1, none⟩ (.slice a10 n10 c10)) q 79 #[.int .i64 (0), .int .i64 (0)]) := ⟨hgs.blk HP10.out fun e => by have := hqw.out; have := HJ.out.lt; omega⟩
  have HO11 : Keep (OwnP (w10.setCell ⟨g, 1, none⟩ (.slice a10 n10 c10)) (.slice a10 n10 c10) (pl ++ [(0, 0)])) := ⟨HO10.out.grown hgs fun k hk e => by subst e; rcases M10.out _ hk with h | h; exact HPg.out _ h rfl; have := HJ.out.lt; omega⟩
  have HD11 : Keep (DskAt (w10.setCell ⟨g, 1, none⟩ (.slice a10 n10 c10)) p vf' cs' (D.appNew i nn (hl 16 (hdF l) ++ l))) := ⟨HD10.out.grown hgs fun k hk e => by subst e; have hj := HJ10.out.typ; rcases hk with h | h | h <;> (have := h.one hj; revert this; decide)⟩
  have GW11 : Keep (Grown w (w10.setCell ⟨g, 1, none⟩ (.slice a10 n10 c10)) fun k => k = p ∨ k = g ∨ (Value.slice pa pl.length pc).ownBlock = some k) := ⟨GW10.out.next hgs fun k _ e => .inr (.inl e)⟩
  clear hgs HJ10 HP10 HO10 HD10 GW10
  generalize w10.setCell ⟨g, 1, none⟩ (.slice a10 n10 c10) = w11 at *
  refine hK _ _ (HP11.out) fun hS11 => ?_
  clear hK
  simp only [Act.put, pqA, pqB, pqC]
  refine wpAnyH_done (by kernel_rfl) ?_ _
  refine hK16 _ _ ?_
  refine wp_seq_k fun K20 hK20 => ?_
  have HP12 : Keep (Blk w11.drew q 79 #[.int .i64 (0), .int .i64 (0)]) := ⟨HP11.out.drew⟩
  have HJ12 : Keep (Blk w11.drew g 61 (jA d (.slice a10 n10 c10) (-1) sz la false)) := ⟨HJ11.out.drew⟩
  have hwl : IntKind.i64.wrap (16 + (l.length : Int)) = 16 + (l.length : Int) := by rw [IntKind.wrap_i64]; have := HL.out; omega
  have hw16 : IntKind.i64.wrap 16 = 16 := by rw [IntKind.wrap_i64]; rfl
  refine wp_region_held_drew (S := fun wx => Blk wx q 79 #[.int .i64 (0), .int .i64 (0)]) (by kernel_rfl) (HP12.out) (fun hHeld => ?_)
  refine tkS (i := 0) (oi := ⟨some 85, Op.move (Operand.tmp 0), 22, _, _, none⟩) (v := .pointer (some ⟨g, 0, none⟩)) rfl (Or.inl ⟨by rfl, fun w hS => by have q0 := hS.c 0 (by rfl : (#[.int .i64 (0), .int .i64 (0)] : Array Value)[0]? = some (.int .i64 0)); have q1 := hS.c 1 (by rfl : (#[.int .i64 (0), .int .i64 (0)] : Array Value)[1]? = some (.int .i64 0)); go_simp⟩) hHeld ?_
  refine tkS (i := 1) (oi := ⟨some 86, Op.move (Operand.tmp 0), 22, _, _, none⟩) (v := .pointer (some ⟨g, 0, none⟩)) rfl (Or.inl ⟨by rfl, fun w hS => by have q0 := hS.c 0 (by rfl : (#[.int .i64 (0), .int .i64 (0)] : Array Value)[0]? = some (.int .i64 0)); have q1 := hS.c 1 (by rfl : (#[.int .i64 (0), .int .i64 (0)] : Array Value)[1]? = some (.int .i64 0)); go_simp⟩) hHeld ?_
  refine tkS (i := 2) (oi := ⟨some 87, Op.fieldAddr 79 (Operand.tmp 5) 0, 0, _, _, none⟩) (v := .pointer (some ⟨q, 0, none⟩)) rfl (Or.inl ⟨by rfl, fun w hS => by have q0 := hS.c 0 (by rfl : (#[.int .i64 (0), .int .i64 (0)] : Array Value)[0]? = some (.int .i64 0)); have q1 := hS.c 1 (by rfl : (#[.int .i64 (0), .int .i64 (0)] : Array Value)[1]? = some (.int .i64 0)); go_simp⟩) hHeld ?_
  refine tkS (i := 3) (oi := ⟨some 88, Op.load 3 (Operand.tmp 87), 3, _, _, none⟩) (v := .int .i64 0) rfl (Or.inl ⟨by rfl, fun w hS => by have q0 := hS.c 0 (by rfl : (#[.int .i64 (0), .int .i64 (0)] : Array Value)[0]? = some (.int .i64 0)); have q1 := hS.c 1 (by rfl : (#[.int .i64 (0), .int .i64 (0)] : Array Value)[1]? = some (.int .i64 0)); go_simp⟩) hHeld ?_
  refine tkS (i := 4) (oi := ⟨some 89, Op.fieldAddr 79 (Operand.tmp 5) 1, 0, _, _, none⟩) (v := .pointer (some ⟨q, 1, none⟩)) rfl (Or.inl ⟨by rfl, fun w hS => by have q0 := hS.c 0 (by rfl : (#[.int .i64 (0), .int .i64 (0)] : Array Value)[0]? = some (.int .i64 0)); have q1 := hS.c 1 (by rfl : (#[.int .i64 (0), .int .i64 (0)] : Array Value)[1]? = some (.int .i64 0)); go_simp⟩) hHeld ?_
  refine tkS (i := 5) (oi := ⟨some 90, Op.load 3 (Operand.tmp 89), 3, _, _, none⟩) (v := .int .i64 0) rfl (Or.inl ⟨by rfl, fun w hS => by have q0 := hS.c 0 (by rfl : (#[.int .i64 (0), .int .i64 (0)] : Array Value)[0]? = some (.int .i64 0)); have q1 := hS.c 1 (by rfl : (#[.int .i64 (0), .int .i64 (0)] : Array Value)[1]? = some (.int .i64 0)); go_simp⟩) hHeld ?_
  refine tkS (i := 6) (oi := ⟨some 91, Op.binOp BinOp.add 3 (Operand.tmp 90) (Operand.const (Value.int IntKind.i64 16)) 3, 3, _, _, none⟩) (v := .int .i64 16) rfl (Or.inl ⟨by rfl, fun w hS => by have q0 := hS.c 0 (by rfl : (#[.int .i64 (0), .int .i64 (0)] : Array Value)[0]? = some (.int .i64 0)); have q1 := hS.c 1 (by rfl : (#[.int .i64 (0), .int .i64 (0)] : Array Value)[1]? = some (.int .i64 0)); go_simp⟩) hHeld ?_
  refine tkS (i := 7) (oi := ⟨some 92, Op.move (Operand.tmp 1), 37, _, _, none⟩) (v := .slice ba l.length bc) rfl (Or.inl ⟨by rfl, fun w hS => by have q0 := hS.c 0 (by rfl : (#[.int .i64 (0), .int .i64 (0)] : Array Value)[0]? = some (.int .i64 0)); have q1 := hS.c 1 (by rfl : (#[.int .i64 (0), .int .i64 (0)] : Array Value)[1]? = some (.int .i64 0)); go_simp⟩) hHeld ?_
  refine tkS (i := 8) (oi := ⟨some 93, Op.call { callee := Callee.builtin Builtin.len, args := #[Operand.tmp 92], argTypes := #[37] }, 3, _, _, none⟩) (v := .int .i64 (l.length : Int)) rfl (Or.inl ⟨by rfl, fun w hS => by have q0 := hS.c 0 (by rfl : (#[.int .i64 (0), .int .i64 (0)] : Array Value)[0]? = some (.int .i64 0)); have q1 := hS.c 1 (by rfl : (#[.int .i64 (0), .int .i64 (0)] : Array Value)[1]? = some (.int .i64 0)); go_simp⟩) hHeld ?_
  refine tkS (i := 9) (oi := ⟨some 94, Op.binOp BinOp.add 3 (Operand.tmp 91) (Operand.tmp 93) 3, 3, _, _, none⟩) (v := .int .i64 (16 + (l.length : Int))) rfl (Or.inl ⟨by rfl, fun w hS => by have q0 := hS.c 0 (by rfl : (#[.int .i64 (0), .int .i64 (0)] : Array Value)[0]? = some (.int .i64 0)); have q1 := hS.c 1 (by rfl : (#[.int .i64 (0), .int .i64 (0)] : Array Value)[1]? = some (.int .i64 0)); go_simp⟩) hHeld ?_
  refine tkS (i := 10) (oi := ⟨some 95, Op.nilCheck (Operand.tmp 85), 0, _, _, none⟩) (v := .pointer (some ⟨g, 0, none⟩)) rfl (Or.inl ⟨by rfl, fun w hS => by have q0 := hS.c 0 (by rfl : (#[.int .i64 (0), .int .i64 (0)] : Array Value)[0]? = some (.int .i64 0)); have q1 := hS.c 1 (by rfl : (#[.int .i64 (0), .int .i64 (0)] : Array Value)[1]? = some (.int .i64 0)); go_simp⟩) hHeld ?_
  refine tkS (i := 11) (oi := ⟨some 96, Op.fieldAddr 61 (Operand.tmp 95) 2, 0, _, _, none⟩) (v := .pointer (some ⟨g, 2, none⟩)) rfl (Or.inl ⟨by rfl, fun w hS => by have q0 := hS.c 0 (by rfl : (#[.int .i64 (0), .int .i64 (0)] : Array Value)[0]? = some (.int .i64 0)); have q1 := hS.c 1 (by rfl : (#[.int .i64 (0), .int .i64 (0)] : Array Value)[1]? = some (.int .i64 0)); go_simp⟩) hHeld ?_
  refine wpAnyH_ready (rs := [12]) (by kernel_rfl) (by simp) ?_
  refine AllReadyH.cons (o := ⟨none, Op.store 3 (Operand.tmp 96) (Operand.tmp 88), 0, _, _, none⟩) rfl (fun K hK => ?_) AllReadyH.nil
  rw [if_pos (by rfl)]
  have f_o := HJ12.out.frozen 2
  have cl : w11.drew.cell? ⟨g, 2, none⟩ = some (.int .i64 (-1)) := HJ12.out.c 2 rfl
  refine wp_cellS (w11.drew.setCell ⟨g, 2, none⟩ (.int .i64 0)) (by go_simp) ?_
  clear f_o cl
  have HJ13 : Keep (Blk (w11.drew.setCell ⟨g, 2, none⟩ (.int .i64 0)) g 61 (jA d (.slice a10 n10 c10) 0 sz la false)) := ⟨HJ12.out.set 2 _⟩
  have HP13 : Keep (Blk (w11.drew.setCell ⟨g, 2, none⟩ (.int .i64 0)) q 79 #[.int .i64 (0), .int .i64 (0)]) := ⟨HP12.out.set_ne (fun e => by have := hqw.out; have := HJ.out.lt; omega) _⟩
  have G13 : Keep (Grown w11 (w11.drew.setCell ⟨g, 2, none⟩ (.int .i64 0)) fun k => k = g) := ⟨(Grown.refl w11 (fun k => k = g)).drew.trans (Grown.setCell w11.drew g 2 _ fun _ => rfl)⟩
  generalize w11.drew.setCell ⟨g, 2, none⟩ (.int .i64 0) = w13 at *
  refine hK _ _ HP13.out fun hA12 => ?_
  clear hK
  simp only [Act.put, pqA, pqB, pqC]
  refine tkS (i := 13) (oi := ⟨some 97, Op.nilCheck (Operand.tmp 86), 0, _, _, none⟩) (v := .pointer (some ⟨g, 0, none⟩)) rfl (Or.inl ⟨by rfl, fun w hS => by have q0 := hS.c 0 (by rfl : (#[.int .i64 (0), .int .i64 (0)] : Array Value)[0]? = some (.int .i64 0)); have q1 := hS.c 1 (by rfl : (#[.int .i64 (0), .int .i64 (0)] : Array Value)[1]? = some (.int .i64 0)); go_simp⟩) hA12 ?_
  refine tkS (i := 14) (oi := ⟨some 98, Op.fieldAddr 61 (Operand.tmp 97) 3, 0, _, _, none⟩) (v := .pointer (some ⟨g, 3, none⟩)) rfl (Or.inl ⟨by rfl, fun w hS => by have q0 := hS.c 0 (by rfl : (#[.int .i64 (0), .int .i64 (0)] : Array Value)[0]? = some (.int .i64 0)); have q1 := hS.c 1 (by rfl : (#[.int .i64 (0), .int .i64 (0)] : Array Value)[1]? = some (.int .i64 0)); go_simp⟩) hA12 ?_
  refine wpAnyH_ready (rs := [15]) (by kernel_rfl) (by simp) ?_
  refine AllReadyH.cons (o := ⟨none, Op.store 3 (Operand.tmp 98) (Operand.tmp 94), 0, _, _, none⟩) rfl (fun K hK => ?_) AllReadyH.nil
  rw [if_pos (by rfl)]
  have f_o := HJ13.out.frozen 3
  have cl : w13.cell? ⟨g, 3, none⟩ = some (.int .i64 sz) := HJ13.out.c 3 rfl
  refine wp_cellS (w13.setCell ⟨g, 3, none⟩ (.int .i64 (16 + (l.length : Int)))) (by go_simp) ?_
  clear f_o cl
  have HJ14 : Keep (Blk (w13.setCell ⟨g, 3, none⟩ (.int .i64 (16 + (l.length : Int)))) g 61 (jA d (.slice a10 n10 c10) 0 (16 + (l.length : Int)) la false)) := ⟨HJ13.out.set 3 _⟩
  have HP14 : Keep (Blk (w13.setCell ⟨g, 3, none⟩ (.int .i64 (16 + (l.length : Int)))) q 79 #[.int .i64 (0), .int .i64 (0)]) := ⟨HP13.out.set_ne (fun e => by have := hqw.out; have := HJ.out.lt; omega) _⟩
  have G14 : Keep (Grown w11 (w13.setCell ⟨g, 3, none⟩ (.int .i64 (16 + (l.length : Int)))) fun k => k = g) := ⟨G13.out.trans (Grown.setCell w13 g 3 _ fun _ => rfl)⟩
  have HJ11t : Keep (Typ w11 g 61) := ⟨HJ11.out.typ⟩
  clear HJ12 HP12 HJ13 HP13 HJ11 hwl hw16
  generalize w13.setCell ⟨g, 3, none⟩ (.int .i64 (16 + (l.length : Int))) = w14 at *
  refine hK _ _ HP14.out fun hA13 => ?_
  clear hK
  have f_o := HJ14.out.frozen 4
  have cl : w14.cell? ⟨g, 4, none⟩ = some (.bool la) := HJ14.out.c 4 rfl
  simp only [Act.put, pqA, pqB, pqC]
  refine wpAnyH_done (by kernel_rfl) ?_ _
  refine hK20 _ _ ?_
  refine wp_seq_k fun K21 hK21 => rgn ?_
  refine VlS (.pointer (some ⟨g, 0, none⟩)) ?_
  refine VlS (.pointer (some ⟨g, 0, none⟩)) ?_
  refine VlS (.pointer (some ⟨g, 4, none⟩)) ?_
  refine WL.cell (by kernel_rfl) (w14.setCell ⟨g, 4, none⟩ (.bool true)) (by go_simp) ?_
  clear f_o cl
  have HJ15 : Keep (Blk (w14.setCell ⟨g, 4, none⟩ (.bool true)) g 61 (jA d (.slice a10 n10 c10) 0 (16 + (l.length : Int)) true false)) := ⟨HJ14.out.set 4 _⟩
  have G15 : Keep (Grown w11 (w14.setCell ⟨g, 4, none⟩ (.bool true)) fun k => k = g) := ⟨G14.out.trans (Grown.setCell w14 g 4 _ fun _ => rfl)⟩
  clear HJ14 G14
  generalize w14.setCell ⟨g, 4, none⟩ (.bool true) = w15 at *
  simp only [Act.put]
  refine WL.nil (hK21 _ _ ?_)
  refine wp_seq_k fun K22 hK22 => rgn ?_
  refine VlS (.int .i64 0) ?_
  refine WL.nil (hK22 _ _ ?_)
  refine wp_ret ?_
  go_ret
  refine ⟨rfl, .slice a10 n10 c10, vf', cs', HJ15.out, HO11.out.grown G15.out fun k hk e => ?_, ?_, GW11.out.next G15.out fun k _ e => .inr (.inl e), N7.out, M10.out⟩
  ·subst e; rcases M10.out _ hk with h | h; exact HPg.out _ h rfl; have := HJ.out.lt; omega
  ·rw [hnn.out] at HD11; exact HD11.out.grown G15.out fun k hk e => by subst e; have hj := HJ11t.out; rcases hk with h | h | h <;> (have := h.one hj; revert this; decide)
theorem Tryd.in28 (w : World) (vs : Array Value) : (callFunc 28 vs).run Tryd.prog w = .ok (.enter 28 vs) w := by kernel_rfl
set_option maxRecDepth 8000 in
theorem jsync_ok (g d p i k : Nat) (hk : k < 10000) (vf vp : Value) (cs : List FC) (D : DV) (sz : Int) (w : World) (hT : Tab w) (hJ : Blk w g 61 (jA d vp (k : Int) sz true false)) (hDk : Blk w d 75 #[ptr p]) (hD : DskAt w p vf cs D) (hO : D.out = false) (hF : fnd (nmS k) D.fs 0 = (i, true)) (hC : cs.length ≤ 256) (hA : 0 ≤ D.acts ∧ D.acts ≤ 4611686018427387904) (hFu : -9223372036854775808 < D.fuse ∧ D.fuse ≤ 9223372036854775807 ∧ ¬ D.fuse = 0) :
  Calls Tryd.prog 25 #[ptr g] w fun e w' => e = .returned (.int .i64 0) ∧ ∃ cs', Blk w' g 61 (jA d vp (k : Int) sz false false) ∧ DskAt w' p vf cs' (D.act.sync i) ∧ (Grown w w' fun k => k = g ∨ k = p ∨ vf.ownBlock = some k) ∧ ∀ k, DskS p vf cs' k → DskS p vf cs k := by
 have HK := Keep.mk hk
 have HT := Keep.mk hT
 have HJ := Keep.mk hJ
 have HDk := Keep.mk hDk
 have HD := Keep.mk hD
 have HO := Keep.mk hO
 have HF := Keep.mk hF
 have HC := Keep.mk hC
 have HA := Keep.mk hA
 have HFu := Keep.mk hFu
 clear hT hJ hDk hD hO hF hC hA hFu hk
 go_enter Tryd.func25, Tryd.ntmps25
 have c5 := HJ.out.c 5 (by rfl : (jA d vp (k : Int) sz true false)[5]? = some (.bool false))
 have c4 := HJ.out.c 4 (by rfl : (jA d vp (k : Int) sz true false)[4]? = some (.bool true))
 refine wp_seq_k fun K1 hK1 => rgn ?_
 refine VlS (.int .i64 0) ?_
 refine WL.nil (hK1 _ _ ?_)
 refine wp_seq_k fun K2 hK2 => ?_
 refine wp_seq_k fun K3 hK3 => rgn ?_
 refine VlS (.pointer (some ⟨g, 0, none⟩)) ?_
 refine VlS (.pointer (some ⟨g, 0, none⟩)) ?_
 refine VlS (.pointer (some ⟨g, 5, none⟩)) ?_
 refine VlS (.bool false) ?_
 refine WL.nil (hK3 _ _ ?_)
 refine wp_cond_false rfl ?_
 refine wp_skip ?_
 refine hK2 _ _ ?_
 refine wp_seq_k fun K4 hK4 => ?_
 refine wp_seq_k fun K5 hK5 => rgn ?_
 refine VlS (.pointer (some ⟨g, 0, none⟩)) ?_
 refine VlS (.pointer (some ⟨g, 0, none⟩)) ?_
 refine VlS (.pointer (some ⟨g, 4, none⟩)) ?_
 refine VlS (.bool true) ?_
 refine VlS (.bool false) ?_
 refine WL.nil (hK5 _ _ ?_)
 refine wp_cond_false rfl ?_
 refine wp_skip ?_
 refine hK4 _ _ ?_
 refine wp_seq_k fun K6 hK6 => ?_
 refine wp_seq_k fun K7 hK7 => ?_
 clear c5 c4
 have D4 : Keep (Below w.heap.size w w.drew) := ⟨(Below.refl _ _).drew⟩
 have HS4 : Keep (∀ wx, Below w.heap.size w wx → wx.cell? ⟨g, 0, none⟩ = some (ptr d) ∧ wx.cell? ⟨g, 2, none⟩ = some (.int .i64 (k : Int))) := ⟨fun wx hx => ⟨(HJ.out.below hx HJ.out.lt).c 0 rfl, (HJ.out.below hx HJ.out.lt).c 2 rfl⟩⟩
 refine wp_region_held_drew (S := fun wx => wx.cell? ⟨g, 0, none⟩ = some (ptr d) ∧ wx.cell? ⟨g, 2, none⟩ = some (.int .i64 (k : Int))) (by kernel_rfl) (HS4.out _ D4.out) (fun hHeld => ?_)
 refine tkS (i := 0) (oi := ⟨some 13, Op.move (Operand.tmp 0), 22, _, _, none⟩) (v := .pointer (some ⟨g, 0, none⟩)) rfl (Or.inl ⟨by rfl, fun w hS => by obtain ⟨hS1, hS2⟩ := hS; go_simp⟩) hHeld ?_
 refine tkS (i := 1) (oi := ⟨some 14, Op.move (Operand.tmp 0), 22, _, _, none⟩) (v := .pointer (some ⟨g, 0, none⟩)) rfl (Or.inl ⟨by rfl, fun w hS => by obtain ⟨hS1, hS2⟩ := hS; go_simp⟩) hHeld ?_
 refine tkS (i := 2) (oi := ⟨some 15, Op.nilCheck (Operand.tmp 14), 0, _, _, none⟩) (v := .pointer (some ⟨g, 0, none⟩)) rfl (Or.inl ⟨by rfl, fun w hS => by obtain ⟨hS1, hS2⟩ := hS; go_simp⟩) hHeld ?_
 refine tkS (i := 3) (oi := ⟨some 16, Op.fieldAddr 61 (Operand.tmp 15) 0, 0, _, _, none⟩) (v := .pointer (some ⟨g, 0, none⟩)) rfl (Or.inl ⟨by rfl, fun w hS => by obtain ⟨hS1, hS2⟩ := hS; go_simp⟩) hHeld ?_
 refine tkS (i := 4) (oi := ⟨some 17, Op.load 30 (Operand.tmp 16), 30, _, _, none⟩) (v := .pointer (some ⟨d, 0, none⟩)) rfl (Or.inl ⟨by rfl, fun w hS => by obtain ⟨hS1, hS2⟩ := hS; go_simp⟩) hHeld ?_
 refine tkS (i := 5) (oi := ⟨some 18, Op.move (Operand.tmp 0), 22, _, _, none⟩) (v := .pointer (some ⟨g, 0, none⟩)) rfl (Or.inl ⟨by rfl, fun w hS => by obtain ⟨hS1, hS2⟩ := hS; go_simp⟩) hHeld ?_
 refine tkS (i := 6) (oi := ⟨some 19, Op.nilCheck (Operand.tmp 18), 0, _, _, none⟩) (v := .pointer (some ⟨g, 0, none⟩)) rfl (Or.inl ⟨by rfl, fun w hS => by obtain ⟨hS1, hS2⟩ := hS; go_simp⟩) hHeld ?_
 refine tkS (i := 7) (oi := ⟨some 20, Op.fieldAddr 61 (Operand.tmp 19) 2, 0, _, _, none⟩) (v := .pointer (some ⟨g, 2, none⟩)) rfl (Or.inl ⟨by rfl, fun w hS => by obtain ⟨hS1, hS2⟩ := hS; go_simp⟩) hHeld ?_
 refine tkS (i := 8) (oi := ⟨some 21, Op.load 3 (Operand.tmp 20), 3, _, _, none⟩) (v := .int .i64 (k : Int)) rfl (Or.inl ⟨by rfl, fun w hS => by obtain ⟨hS1, hS2⟩ := hS; go_simp⟩) hHeld ?_
 refine wpAnyH_ready (rs := [9]) (by kernel_rfl) (by simp) ?_
 refine AllReadyH.cons (o := ⟨some 22, Op.call { callee := Callee.value (Operand.func 31), args := #[Operand.tmp 21], argTypes := #[3] }, 9, _, _, none⟩) rfl (fun K hK => ?_) AllReadyH.nil
 rw [if_pos (by rfl)]
 refine wp_callF 31 _ _ rfl Tryd.in31 #[.int .i64 (k : Int)] (by simp [Act.eval]) (fun vz wz => vz = .string (nmS k) ∧ Below w.heap.size w wz) ?_ ?_
 ·refine (name_any k HK.out w.drew (HT.out.below D4.out (Nat.lt_of_le_of_lt (Nat.zero_le _) HJ.out.lt))).mono ?_
  rintro e wz ⟨rfl, h⟩
  exact ⟨_, rfl, rfl, D4.out.trans (h.mono D4.out.size)⟩
 rintro vz w5 ⟨rfl, h5⟩
 have B5 := Keep.mk h5
 clear h5
 obtain ⟨nn, hnn⟩ : ∃ s, Keep (s = nmS k) := ⟨_, ⟨rfl⟩⟩
 rw [← hnn.out]
 refine hK _ _ (HS4.out _ B5.out) fun hH5 => ?_
 clear hK
 simp only [Act.put, pqA, pqB, pqC]
 refine wpAnyH_ready (rs := [10]) (by kernel_rfl) (by simp) ?_
 refine AllReadyH.cons (o := ⟨some 23, Op.call { callee := Callee.value (Operand.func 43), args := #[Operand.tmp 17, Operand.tmp 22], argTypes := #[30, 9] }, 24, _, _, none⟩) rfl (fun K hK => ?_) AllReadyH.nil
 rw [if_pos (by rfl)]
 refine wp_callF 43 _ _ rfl Tryd.in43 #[ptr d, .string nn] (by simp [Act.eval]) (fun vz wz => vz = .int .i64 0 ∧ ∃ cs', DskAt wz p vf cs' (D.act.sync i) ∧ (Grown w5 wz fun k => k = p ∨ vf.ownBlock = some k) ∧ ∀ k, DskS p vf cs' k → DskS p vf cs k) ?_ ?_
 ·refine (sync_is d p i nn vf cs D w5 (HDk.out.below B5.out HDk.out.lt) (HD.out.below B5.out) HO.out (by rw [hnn.out]; exact HF.out) HC.out HA.out HFu.out).mono ?_
  rintro e wz ⟨rfl, cs1, h1, h2, h3⟩
  exact ⟨_, rfl, rfl, cs1, h1, h2, h3⟩
 rintro vz w7 ⟨rfl, cs', h1, h2, h3⟩
 have HD7 := Keep.mk h1
 have N7 := Keep.mk h3
 have HJ7 : Keep (Blk w7 g 61 (jA d vp (k : Int) sz true false)) := ⟨h2.blk (HJ.out.below B5.out HJ.out.lt) (fun e => by rcases e with e | e; subst e; have := HJ.out.typ.one HD.out.blk.typ; revert this; decide; have := HJ.out.typ.one (HD.out.own.typ e); revert this; decide)⟩
 have GW7 : Keep (Grown w w7 fun k => k = p ∨ vf.ownBlock = some k) := ⟨(Grown.below B5.out).trans h2⟩
 clear h1 h2 h3
 refine hK _ _ (⟨HJ7.out.c 0 rfl, HJ7.out.c 2 rfl⟩) fun hH7 => ?_
 clear hK
 simp only [Act.put, pqA, pqB, pqC]
 refine wpAnyH_ready (rs := [11]) (by kernel_rfl) (by simp) ?_
 refine AllReadyH.cons (o := ⟨some 24, Op.call { callee := Callee.value (Operand.func 29), args := #[Operand.tmp 13, Operand.tmp 23], argTypes := #[22, 24] }, 24, _, _, none⟩) rfl (fun K hK => ?_) AllReadyH.nil
 rw [if_pos (by rfl)]
 refine wp_callF 29 _ _ rfl Tryd.in29 #[ptr g, .int .i64 0] (by simp [Act.eval]) (fun vz wz => vz = .int .i64 0 ∧ w7 = wz) ?_ ?_
 ·refine (told_ok g 0 (by omega) w7).mono ?_
  rintro e wz ⟨rfl, h⟩
  exact ⟨_, rfl, rfl, h.symm⟩
 rintro vz wy ⟨rfl, hy⟩
 subst hy
 refine hK _ _ (⟨HJ7.out.c 0 rfl, HJ7.out.c 2 rfl⟩) fun hH8 => ?_
 clear hK
 simp only [Act.put, pqA, pqB, pqC]
 refine tkS (i := 12) (oi := ⟨some 3, Op.assign (Operand.tmp 24), 24, _, _, none⟩) (v := .int .i64 0) rfl (Or.inl ⟨by rfl, fun w hS => by obtain ⟨hS1, hS2⟩ := hS; go_simp⟩) hH8 ?_
 refine wpAnyH_done (by kernel_rfl) ?_ _
 refine hK7 _ _ ?_
 refine wp_seq_k fun K8 hK8 => rgn ?_
 refine VlS (.int .i64 0) ?_
 refine VlS (.bool false) ?_
 refine WL.nil (hK8 _ _ ?_)
 refine wp_cond_false rfl ?_
 refine wp_skip ?_
 refine hK6 _ _ ?_
 refine wp_seq_k fun K9 hK9 => rgn ?_
 have f_o := HJ7.out.frozen 4
 have c4 := HJ7.out.c 4 (by rfl : (jA d vp (k : Int) sz true false)[4]? = some (.bool true))
 refine VlS (.pointer (some ⟨g, 0, none⟩)) ?_
 refine VlS (.pointer (some ⟨g, 0, none⟩)) ?_
 refine VlS (.pointer (some ⟨g, 4, none⟩)) ?_
 refine WL.cell (by kernel_rfl) (w7.setCell ⟨g, 4, none⟩ (.bool false)) (by go_simp) ?_
 clear f_o c4
 have HJ8 := Keep.mk (HJ7.out.set 4 (.bool false))
 have hgs : Grown w7 (w7.setCell ⟨g, 4, none⟩ (.bool false)) fun k => k = g := Grown.setCell w7 g 4 _ fun _ => rfl
 have HD8 := Keep.mk (HD7.out.grown hgs fun j hk e => by subst e; have hj := HJ7.out.typ; rcases hk with h | h | h <;> (have := h.one hj; revert this; decide))
 have GW8 : Keep (Grown w (w7.setCell ⟨g, 4, none⟩ (.bool false)) fun k => k = g ∨ k = p ∨ vf.ownBlock = some k) := ⟨(GW7.out.mono fun k _ h => .inr h).next hgs fun k _ e => .inl e⟩
 clear hgs
 generalize w7.setCell ⟨g, 4, none⟩ (.bool false) = w8 at *
 simp only [Act.put]
 refine WL.nil (hK9 _ _ ?_)
 refine wp_seq_k fun K10 hK10 => rgn ?_
 refine VlS (.int .i64 0) ?_
 refine WL.nil (hK10 _ _ ?_)
 refine wp_ret ?_
 go_ret
 exact ⟨rfl, cs', HJ8.out, HD8.out, GW8.out, N7.out⟩
set_option maxRecDepth 8000 in
theorem jsync_idle (g : Nat) (w : World) (c5 : w.cell? ⟨g, 5, none⟩ = some (.bool false)) (c4 : w.cell? ⟨g, 4, none⟩ = some (.bool false)) : Calls Tryd.prog 25 #[ptr g] w fun e w' => e = .returned (.int .i64 0) ∧ w' = w := by
 go_enter Tryd.func25, Tryd.ntmps25
 refine wp_seq_k fun K1 hK1 => rgn ?_
 refine VlS (.int .i64 0) ?_
 refine WL.nil (hK1 _ _ ?_)
 refine wp_seq_k fun K2 hK2 => ?_
 refine wp_seq_k fun K3 hK3 => rgn ?_
 refine VlS (.pointer (some ⟨g, 0, none⟩)) ?_
 refine VlS (.pointer (some ⟨g, 0, none⟩)) ?_
 refine VlS (.pointer (some ⟨g, 5, none⟩)) ?_
 refine VlS (.bool false) ?_
 refine WL.nil (hK3 _ _ ?_)
 refine wp_cond_false rfl ?_
 refine wp_skip ?_
 refine hK2 _ _ ?_
 refine wp_seq_k fun K4 hK4 => ?_
 refine wp_seq_k fun K5 hK5 => rgn ?_
 refine VlS (.pointer (some ⟨g, 0, none⟩)) ?_
 refine VlS (.pointer (some ⟨g, 0, none⟩)) ?_
 refine VlS (.pointer (some ⟨g, 4, none⟩)) ?_
 refine VlS (.bool false) ?_
 refine VlS (.bool true) ?_
 refine WL.nil (hK5 _ _ ?_)
 refine wp_cond_true rfl ?_
 refine wp_seq_k fun K6 hK6 => rgn ?_
 refine VlS (.int .i64 0) ?_
 refine WL.nil (hK6 _ _ ?_)
 refine wp_ret ?_
 go_ret
 exact ⟨rfl, rfl⟩
theorem yieldsIf_bld {P : Program} {ops : Array Oper} {S : World → Prop} {op : Oper} {a : Act} (hw : Region.wanted op (yielded ops a.tmps) = true) (t : TypeId) (parts : Array (Nat × Operand)) (ho : op.op = .build t parts)
  (vs : Array (Nat × Value)) (hv : (parts.map fun (i, x) => (i, a.eval x)) = vs) (v : Value) (hr : ∀ w : World, (Next.value <$> Instr.build t vs).run P w = .ok (.value v) w) : YieldsIf P ops S op v a :=
 .inl ⟨hw, fun w _ => by unfold execOp; simp only [ho, hv]; exact hr w⟩
theorem run_bldF (s : ByteArray) (a : Option Addr) (n c : Nat) (k : Int) (w : World) : (Next.value <$> Instr.build 70 #[(0, .string s), (1, .slice a n c), (2, .int .i64 k)]).run Tryd.prog w = .ok (.value (.agg (fA ⟨s, .slice a n c, k⟩))) w := by kernel_rfl
theorem snoc_get {α : Type} {l : List α} {x y : α} {j : Nat} (h : (l ++ [x])[j]? = some y) : l[j]? = some y ∨ (j = l.length ∧ x = y) := by
 rcases Nat.lt_or_ge j l.length with hj | hj
 ·rw [List.getElem?_append_left hj] at h; exact .inl h
 ·rw [List.getElem?_append_right hj] at h
  rcases hq : j - l.length with _ | m
  ·rw [hq] at h; simp at h; exact .inr ⟨by omega, h⟩
  ·rw [hq] at h; simp at h
theorem news_more {B : Nat} {ct : List FC} {x : FC} (h : ∀ (j : Nat) (y : FC) (k : Nat), ct[j]? = some y → y.b.ownBlock = some k → B ≤ k) (hx : ∀ k, x.b.ownBlock = some k → B ≤ k) : ∀ (j : Nat) (y : FC) (k : Nat), (ct ++ [x])[j]? = some y → y.b.ownBlock = some k → B ≤ k := fun j y k hj hk => by
 rcases snoc_get hj with hj | ⟨_, rfl⟩
 ·exact h j y k hj hk
 ·exact hx k hk
theorem fcs_lt {w : World} {cs : List FC} {fs : List PF} (h : FcsAt w cs fs) {j : Nat} {y : FC} {k : Nat} (hj : cs[j]? = some y) (hk : y.b.ownBlock = some k) : k < w.heap.size := by
 have hl := (List.getElem?_eq_some_iff.1 hj).1
 rw [h.len] at hl
 exact (h.each j y _ hj (List.getElem?_eq_getElem hl)).2.2.lt k hk
theorem fcs_more {w wf : World} {ct : List FC} {fs : List PF} {t : Nat} {f : PF} {y : FC} {S : Nat → Prop} (h : FcsAt w ct (fs.take t)) (hf : fs[t]? = some f) (hy : FcAt w y f) (hap : ∀ (j : Nat) (z : FC) (k : Nat), ct[j]? = some z → z.b.ownBlock = some k → y.b.ownBlock ≠ some k) (hg : Grown w wf S) (hS : ∀ k, Typ w k 5 → ¬ S k) : FcsAt wf (ct ++ [y]) (fs.take (t + 1)) := by
 have ht := (List.getElem?_eq_some_iff.1 hf).1
 have hl := h.len
 rw [List.length_take, Nat.min_eq_left (by omega)] at hl
 have e : fs.take (t + 1) = fs.take t ++ [f] := by rw [List.take_add_one, hf]; rfl
 rw [e]
 refine ⟨by simp; have := h.len; simp at this; omega, fun i x g hx hgi => ?_, fun i j x z hx hz hne k hk hzk => ?_⟩
 ·refine FcAt.grown ?_ hg hS
  rcases snoc_get hx with hx | ⟨e1, rfl⟩
  ·have hi := (List.getElem?_eq_some_iff.1 hx).1
   rw [List.getElem?_append_left (by simp; omega)] at hgi
   exact h.each i x g hx hgi
  ·rw [List.getElem?_append_right (by simp; omega)] at hgi
   rw [show i - (fs.take t).length = 0 by simp; omega] at hgi
   injection hgi with hgi
   subst hgi
   exact hy
 ·rcases snoc_get hx with hx | ⟨e1, rfl⟩
  ·rcases snoc_get hz with hz | ⟨e2, rfl⟩
   ·exact h.apart i j x z hx hz hne k hk hzk
   ·exact hap i x k hx hk hzk
  ·rcases snoc_get hz with hz | ⟨e2, rfl⟩
   ·exact hap j z k hz hzk hk
   ·omega
theorem wp_appS {Q : Exit → Act → World → Prop} {o : Oper} {a : Act} {w : World} {K : Act → World → Prop} (s x : Operand)
  (ho : o.op = .call { callee := .builtin .append, args := #[s, x], argTypes := #[44, 44] }) (v vs : Value) (l m : List FC) (hm : ∀ x ∈ m, SlF x)
  (hs : a.eval s = v) (hx : a.eval x = vs) (hown : OwnF w v l) (hsrc : SrcF w vs m) (hb : l.length + m.length ≤ 1000000000000)
  (h : ∀ v' w', OwnF w' v' (l ++ m) → (Grown w w' fun k => v.ownBlock = some k) → Moved w v v' → K (a.put o.dst v') w') : o.wp Tryd.prog a w K Q := by
 obtain ⟨v', w', hr, h1, h2, h3⟩ := run_appS w o.type v vs l m hown hm hsrc hb
 unfold Oper.wp execOp
 simp only [ho, resolve, invoke, builtin, Sem.run_bind, Sem.run_pure, Result.andThen_ok, List.map_toArray, List.map_cons, List.map_nil, hs, hx, hr]
 exact h v' w' h1 h2 h3
set_option maxRecDepth 8000 in
set_option maxHeartbeats 2000000 in
theorem files_any (h p : Nat) (vf : Value) (cs : List FC) (D : DV) (w : World) (hH : Blk w h 77 #[ptr p]) (hD : DskAt w p vf cs D) (hL : cs.length ≤ 1000000) (hS : ∀ f ∈ D.fs, f.bs.length ≤ 70368744177664) :
  Calls Tryd.prog 28 #[ptr h] w fun e w' => ∃ v ct, e = .returned v ∧ OwnF w' v ct ∧ FcsAt w' ct D.fs ∧ NewF w.heap.size v ∧ (∀ (j : Nat) (y : FC) (k : Nat), ct[j]? = some y → y.b.ownBlock = some k → w.heap.size ≤ k) ∧ Below w.heap.size w w' := by
 obtain ⟨va, vc, rfl⟩ := hD.own.sl
 have HH := Keep.mk hH
 have HD := Keep.mk hD
 have HL := Keep.mk hL
 have HS := Keep.mk hS
 clear hH hD hL hS
 go_enter Tryd.func28, Tryd.ntmps28
 have c0 := HH.out.c 0 (by rfl : (#[ptr p] : Array Value)[0]? = some (ptr p))
 refine wp_seq_k fun K1 hK1 => rgn ?_
 refine VlS (.slice none 0 0) ?_
 refine WL.nil (hK1 _ _ ?_)
 refine wp_seq_k fun K2 hK2 => rgn ?_
 refine WL.bs (by kernel_rfl) 44 0 _ rfl #[] (by simp) _ _ (bsFE w) ?_
 have HN1 := Keep.mk (ownF_empty w)
 have B1 := Keep.mk (below_new w (.cells #[] 70))
 clear c0
 generalize w.alloc (.cells #[] 70) = w1 at *
 obtain ⟨g1, hg1⟩ : ∃ g, Keep (g = w.heap.size) := ⟨_, ⟨rfl⟩⟩
 rw [← hg1.out] at HN1 ⊢
 have N1 : Keep (NewF w.heap.size (.slice (some ⟨g1, 0, none⟩) 0 0)) := ⟨NewF.at (by rw [hg1.out]; exact Nat.le_refl _)⟩
 have c0 := (HH.out.below B1.out HH.out.lt).c 0 (by rfl : (#[ptr p] : Array Value)[0]? = some (ptr p))
 have p0 := (HD.out.blk.below B1.out HD.out.blk.lt).c 0 (by rfl : (stA (.slice va cs.length vc) D)[0]? = some (.slice va cs.length vc))
 simp only [Act.put, pqA, pqB, pqC]
 refine VlS (.slice (some ⟨g1, 0, none⟩) 0 0) ?_
 refine WL.nil (hK2 _ _ ?_)
 refine wp_seq_k fun K3 hK3 => ?_
 refine wp_seq_k fun K4 hK4 => rgn ?_
 refine VlS (.pointer (some ⟨h, 0, none⟩)) ?_
 refine VlS (.pointer (some ⟨h, 0, none⟩)) ?_
 refine VlS (.pointer (some ⟨h, 0, none⟩)) ?_
 refine VlS (.pointer (some ⟨p, 0, none⟩)) ?_
 refine VlS (.pointer (some ⟨p, 0, none⟩)) ?_
 refine VlS (.pointer (some ⟨p, 0, none⟩)) ?_
 refine VlS (.slice va cs.length vc) ?_
 refine VlS (.int .i64 (cs.length : Int)) ?_
 refine VlS (.int .i64 0) ?_
 refine WL.nil (hK4 _ _ ?_)
 refine wp_block ?_
 refine wp_loop (fun ac wr => ∃ (t : Nat) (f : Nat → Value) (xa : Option Addr) (xl xc : Nat) (ct : List FC), ac = { tmps := #[.pointer (some ⟨h, 0, none⟩), undef, .slice none 0 0, .slice xa xl xc, undef, f 5, .slice (some ⟨g1, 0, none⟩) 0 0, .pointer (some ⟨h, 0, none⟩), .pointer (some ⟨h, 0, none⟩), .pointer (some ⟨h, 0, none⟩), .pointer (some ⟨p, 0, none⟩), .pointer (some ⟨p, 0, none⟩), .pointer (some ⟨p, 0, none⟩), .slice va cs.length vc, .int .i64 (cs.length : Int), .int .i64 (t : Int), f 16, f 17, f 18, f 19, f 20, f 21, f 22, f 23, f 24, f 25, f 26, f 27, f 28, f 29, f 30, f 31, undef], defers := [] } ∧ t ≤ cs.length ∧ OwnF wr (.slice xa xl xc) ct ∧ FcsAt wr ct (D.fs.take t) ∧ (NewF w.heap.size (.slice xa xl xc) ∧ ∀ (j : Nat) (y : FC) (k : Nat), ct[j]? = some y → y.b.ownBlock = some k → w.heap.size ≤ k) ∧ Below w.heap.size w wr) (fun a _ => cs.length - (intOf (a.tmps.getD 15 undef)).toNat) ⟨0, fun i => [.pointer (some ⟨h, 0, none⟩), undef, .slice none 0 0, .slice (some ⟨g1, 0, none⟩) 0 0, undef, undef, .slice (some ⟨g1, 0, none⟩) 0 0, .pointer (some ⟨h, 0, none⟩), .pointer (some ⟨h, 0, none⟩), .pointer (some ⟨h, 0, none⟩), .pointer (some ⟨p, 0, none⟩), .pointer (some ⟨p, 0, none⟩), .pointer (some ⟨p, 0, none⟩), .slice va cs.length vc, .int .i64 (cs.length : Int), .int .i64 0, undef, undef, undef, undef, undef, undef, undef, undef, undef, undef, undef, undef, undef, undef, undef, undef, undef].getD i undef, some ⟨g1, 0, none⟩, 0, 0, [], rfl, Nat.zero_le _, HN1.out, FcsAt.nil _, ⟨N1.out, fun j y k h => by simp at h⟩, B1.out⟩ ?_
 clear c0 p0
 rintro ac wr ⟨t, f, xa, xl, xc, ct, rfl, ht, hO1, hO2, hO3, hO4⟩
 have JO := Keep.mk hO1
 have JF := Keep.mk hO2
 have JN := Keep.mk hO3
 have JB := Keep.mk hO4
 clear hO1 hO2 hO3 hO4
 by_cases hlt : t < cs.length
 ·have hlt' : (t : Int) < (cs.length : Int) := by omega
  have hwt : IntKind.i64.wrap ((t : Int) + 1) = (t : Int) + 1 := by rw [IntKind.wrap_i64]; have := HL.out; omega
  obtain ⟨x, hx⟩ : ∃ x, cs[t]? = some x := ⟨cs[t], List.getElem?_eq_getElem hlt⟩
  obtain ⟨f_, hf_⟩ : ∃ f, D.fs[t]? = some f := ⟨D.fs[t]'(by have := HD.out.fcs.len; omega), List.getElem?_eq_getElem _⟩
  have JD : Keep (DskAt wr p (.slice va cs.length vc) cs D) := ⟨HD.out.below JB.out⟩
  obtain ⟨g, ha, hrg⟩ := JD.out.own.at hx
  subst ha
  have HRg := Keep.mk hrg
  have HXF : Keep (FcAt wr x f_) := ⟨JD.out.fcs.each t x f_ hx hf_⟩
  have HFf := Keep.mk hf_
  obtain ⟨xn, xb, xs⟩ := x
  obtain ⟨xba, xbc, hxb⟩ := row_form HXF.out.2.2.row
  change xb = _ at hxb
  subst hxb
  clear hrg hx hf_
  refine wp_seq_k fun K5 hK5 => rgn ?_
  refine VlS (.bool true) ?_
  refine WL.nil (hK5 _ _ ?_)
  refine wp_seq_k fun K6 hK6 => ?_
  refine wp_cond_true rfl ?_
  refine wp_skip ?_
  refine hK6 _ _ ?_
  refine wp_seq_k fun K7 hK7 => ?_
  refine wp_block ?_
  refine wp_seq_k fun K8 hK8 => rgn ?_
  refine VlS (.pointer (some ⟨g, t * 3, none⟩)) ?_
  refine WL.mid (by kernel_rfl) 70 (.tmp 17) rfl g (t * 3) rfl (fA (⟨xn, .slice xba f_.bs.length xbc, xs⟩ : FC)).toList _ HRg.out Tryd.underlying70 rfl (Tryd.sizeFL (⟨xn, .slice xba f_.bs.length xbc, xs⟩ : FC)) ?_
  rw [fA_back]
  simp only [Act.put, pqA, pqB, pqC]
  refine WL.new (by kernel_rfl) 70 rfl _ Tryd.newF ?_
  have HN := Keep.mk (Blk.new wr 70 (fA zeroF))
  have BN := Keep.mk (below_new wr (.cells (fA zeroF) 70))
  generalize wr.alloc (.cells (fA zeroF) 70) = wa at *
  obtain ⟨g7, hg7⟩ : ∃ g, Keep (g = wr.heap.size) := ⟨_, ⟨rfl⟩⟩
  rw [← hg7.out] at HN ⊢
  simp only [Act.put, pqA, pqB, pqC]
  refine WL.storeR (by kernel_rfl) 70 (.tmp 5) (.tmp 18) rfl g7 (fA (⟨xn, .slice xba f_.bs.length xbc, xs⟩ : FC)) rfl rfl 70 (fA zeroF) HN.out (Tryd.sizeFB _) rfl (SlF.one ⟨_, _, _, rfl⟩) ?_
  have H7 := Keep.mk (HN.out.setRow (fA (⟨xn, .slice xba f_.bs.length xbc, xs⟩ : FC)))
  have B7 := Keep.mk (below_setRow BN.out (b := g7) (by rw [hg7.out]; exact Nat.le_refl _) (fA (⟨xn, .slice xba f_.bs.length xbc, xs⟩ : FC)))
  have L7 : Keep (wr.heap.size ≤ g7) := ⟨by rw [hg7.out]; exact Nat.le_refl _⟩
  generalize wa.setRow g7 (fA (⟨xn, .slice xba f_.bs.length xbc, xs⟩ : FC)) = wb at *
  have HXb : Keep (FcAt wb (⟨xn, .slice xba f_.bs.length xbc, xs⟩ : FC) f_) := ⟨HXF.out.grown (Grown.below (S := fun _ => False) B7.out) fun _ _ h => h⟩
  have JBb : Keep (Below w.heap.size w wb) := ⟨JB.out.trans (B7.out.mono JB.out.size)⟩
  have LO : Keep (∀ k, (Value.slice xa xl xc).ownBlock = some k → k < g7) := ⟨fun k hk => by have := JO.out.lt k hk; have := L7.out; omega⟩
  have JOb := Keep.mk (JO.out.below B7.out)
  have JFb : Keep (FcsAt wb ct (D.fs.take t)) := ⟨JF.out.grown (Grown.below (S := fun _ => False) B7.out) fun _ _ h => h⟩
  clear HN BN hg7 HRg JB B7 HXF JO JF JD
  simp only [Act.put]
  refine WL.nil (hK8 _ _ ?_)
  refine wp_region_held_drew (S := fun wx => Blk wx g7 70 (fA (⟨xn, .slice xba f_.bs.length xbc, xs⟩ : FC))) (by kernel_rfl) (H7.out.drew) (fun hHeld => ?_)
  refine tkS (i := 0) (oi := ⟨some 19, Op.move (Operand.tmp 3), 44, _, _, none⟩) (v := .slice xa xl xc) rfl (Or.inl ⟨by rfl, fun w hS => by have s0 := hS.c 0 (by rfl : (fA (⟨xn, .slice xba f_.bs.length xbc, xs⟩ : FC))[0]? = some (.string xn)); have s1 := hS.c 1 (by rfl : (fA (⟨xn, .slice xba f_.bs.length xbc, xs⟩ : FC))[1]? = some (.slice xba f_.bs.length xbc)); have s2 := hS.c 2 (by rfl : (fA (⟨xn, .slice xba f_.bs.length xbc, xs⟩ : FC))[2]? = some (.int .i64 xs)); go_simp⟩) hHeld ?_
  refine tkS (i := 1) (oi := ⟨some 20, Op.fieldAddr 70 (Operand.tmp 5) 0, 0, _, _, none⟩) (v := .pointer (some ⟨g7, 0, none⟩)) rfl (Or.inl ⟨by rfl, fun w hS => by have s0 := hS.c 0 (by rfl : (fA (⟨xn, .slice xba f_.bs.length xbc, xs⟩ : FC))[0]? = some (.string xn)); have s1 := hS.c 1 (by rfl : (fA (⟨xn, .slice xba f_.bs.length xbc, xs⟩ : FC))[1]? = some (.slice xba f_.bs.length xbc)); have s2 := hS.c 2 (by rfl : (fA (⟨xn, .slice xba f_.bs.length xbc, xs⟩ : FC))[2]? = some (.int .i64 xs)); go_simp⟩) hHeld ?_
  refine tkS (i := 2) (oi := ⟨some 21, Op.load 9 (Operand.tmp 20), 9, _, _, none⟩) (v := .string xn) rfl (Or.inl ⟨by rfl, fun w hS => by have s0 := hS.c 0 (by rfl : (fA (⟨xn, .slice xba f_.bs.length xbc, xs⟩ : FC))[0]? = some (.string xn)); have s1 := hS.c 1 (by rfl : (fA (⟨xn, .slice xba f_.bs.length xbc, xs⟩ : FC))[1]? = some (.slice xba f_.bs.length xbc)); have s2 := hS.c 2 (by rfl : (fA (⟨xn, .slice xba f_.bs.length xbc, xs⟩ : FC))[2]? = some (.int .i64 xs)); go_simp⟩) hHeld ?_
  refine tkS (i := 4) (oi := ⟨some 23, Op.fieldAddr 70 (Operand.tmp 5) 1, 0, _, _, none⟩) (v := .pointer (some ⟨g7, 1, none⟩)) rfl (Or.inl ⟨by rfl, fun w hS => by have s0 := hS.c 0 (by rfl : (fA (⟨xn, .slice xba f_.bs.length xbc, xs⟩ : FC))[0]? = some (.string xn)); have s1 := hS.c 1 (by rfl : (fA (⟨xn, .slice xba f_.bs.length xbc, xs⟩ : FC))[1]? = some (.slice xba f_.bs.length xbc)); have s2 := hS.c 2 (by rfl : (fA (⟨xn, .slice xba f_.bs.length xbc, xs⟩ : FC))[2]? = some (.int .i64 xs)); go_simp⟩) hHeld ?_
  refine tkS (i := 5) (oi := ⟨some 24, Op.load 37 (Operand.tmp 23), 37, _, _, none⟩) (v := .slice xba f_.bs.length xbc) rfl (Or.inl ⟨by rfl, fun w hS => by have s0 := hS.c 0 (by rfl : (fA (⟨xn, .slice xba f_.bs.length xbc, xs⟩ : FC))[0]? = some (.string xn)); have s1 := hS.c 1 (by rfl : (fA (⟨xn, .slice xba f_.bs.length xbc, xs⟩ : FC))[1]? = some (.slice xba f_.bs.length xbc)); have s2 := hS.c 2 (by rfl : (fA (⟨xn, .slice xba f_.bs.length xbc, xs⟩ : FC))[2]? = some (.int .i64 xs)); go_simp⟩) hHeld ?_
  refine tkS (i := 7) (oi := ⟨some 26, Op.fieldAddr 70 (Operand.tmp 5) 2, 0, _, _, none⟩) (v := .pointer (some ⟨g7, 2, none⟩)) rfl (Or.inl ⟨by rfl, fun w hS => by have s0 := hS.c 0 (by rfl : (fA (⟨xn, .slice xba f_.bs.length xbc, xs⟩ : FC))[0]? = some (.string xn)); have s1 := hS.c 1 (by rfl : (fA (⟨xn, .slice xba f_.bs.length xbc, xs⟩ : FC))[1]? = some (.slice xba f_.bs.length xbc)); have s2 := hS.c 2 (by rfl : (fA (⟨xn, .slice xba f_.bs.length xbc, xs⟩ : FC))[2]? = some (.int .i64 xs)); go_simp⟩) hHeld ?_
  refine tkS (i := 8) (oi := ⟨some 27, Op.load 3 (Operand.tmp 26), 3, _, _, none⟩) (v := .int .i64 xs) rfl (Or.inl ⟨by rfl, fun w hS => by have s0 := hS.c 0 (by rfl : (fA (⟨xn, .slice xba f_.bs.length xbc, xs⟩ : FC))[0]? = some (.string xn)); have s1 := hS.c 1 (by rfl : (fA (⟨xn, .slice xba f_.bs.length xbc, xs⟩ : FC))[1]? = some (.slice xba f_.bs.length xbc)); have s2 := hS.c 2 (by rfl : (fA (⟨xn, .slice xba f_.bs.length xbc, xs⟩ : FC))[2]? = some (.int .i64 xs)); go_simp⟩) hHeld ?_
  refine wpAnyH_ready (rs := [3]) (by kernel_rfl) (by simp) ?_
  refine AllReadyH.cons (o := ⟨some 22, Op.buildSlice 37 0 #[], 37, _, _, none⟩) rfl (fun K hK => ?_) AllReadyH.nil
  rw [if_pos (by rfl)]
  refine wp_bs 37 0 _ rfl #[] (by simp) _ _ (bsBE wb.drew) ?_
  have hbx : Below wb.heap.size wb (wb.drew.alloc (.cells #[] 5)) := (Below.refl wb.heap.size wb).drew.trans (below_new wb.drew _)
  have HE : Keep (Own (wb.drew.alloc (.cells #[] 5)) (.slice (some ⟨wb.drew.heap.size, 0, none⟩) 0 0) []) := ⟨own_empty _ _ (Blk.new wb.drew 5 #[])⟩
  have LE : Keep (wb.heap.size ≤ wb.drew.heap.size) := ⟨Nat.le_refl _⟩
  have BC := Keep.mk hbx
  clear hbx
  generalize wb.drew.alloc (.cells #[] 5) = wc at *
  generalize wb.drew.heap.size = ge at *
  refine hK _ _ (H7.out.below BC.out H7.out.lt) fun hH1 => ?_
  clear hK
  simp only [Act.put, pqA, pqB, pqC]
  refine wpAnyH_ready (rs := [6]) (by kernel_rfl) (by simp) ?_
  refine AllReadyH.cons (o := ⟨some 25, Op.call { callee := Callee.builtin Builtin.append, args := #[Operand.tmp 22, Operand.tmp 24], argTypes := #[37, 37] }, 37, _, _, none⟩) rfl (fun K hK => ?_) AllReadyH.nil
  rw [if_pos (by rfl)]
  refine wp_app (.tmp 22) (.tmp 24) rfl (.slice (some ⟨ge, 0, none⟩) 0 0) (.slice xba f_.bs.length xbc) [] f_.bs rfl rfl HE.out (HXb.out.2.2.row.below BC.out) (by have := HS.out f_ (List.mem_of_getElem? HFf.out); simp; omega) fun v9 wd hp => ?_
  have BD : Keep (Below wb.heap.size wb wd) := ⟨BC.out.trans (hp.grown.to_below (B := wb.heap.size) (fun k hk e => by have e : ge = k := Option.some.inj e; have := LE.out; omega) BC.out.size)⟩
  have HV9 : Keep (Own wd v9 f_.bs) := ⟨by have h := hp.1; rw [List.nil_append] at h; exact h⟩
  have N9 : Keep (∀ k, v9.ownBlock = some k → wb.heap.size ≤ k) := ⟨own_new hp BC.out.size fun k hk => by have e : ge = k := Option.some.inj hk; have := LE.out; omega⟩
  clear hp HE
  obtain ⟨a9, n9, k9, e9⟩ := HV9.out.sl
  subst e9
  refine hK _ _ (H7.out.below BD.out H7.out.lt) fun hH2 => ?_
  clear hK
  simp only [Act.put, pqA, pqB, pqC]
  refine tkS (i := 9) (oi := ⟨some 28, Op.build 70 #[(0, Operand.tmp 21), (1, Operand.tmp 25), (2, Operand.tmp 27)], 70, _, _, none⟩) (v := .agg (fA (⟨xn, .slice a9 n9 k9, xs⟩ : FC))) rfl (yieldsIf_bld (by rfl) 70 _ rfl #[(0, .string xn), (1, .slice a9 n9 k9), (2, .int .i64 xs)] (by simp [Act.eval]) (.agg (fA (⟨xn, .slice a9 n9 k9, xs⟩ : FC))) (fun w => run_bldF _ _ _ _ _ w)) hH2 ?_
  refine wpAnyH_ready (rs := [10]) (by kernel_rfl) (by simp) ?_
  refine AllReadyH.cons (o := ⟨some 29, Op.buildSlice 44 1 #[(0, Operand.tmp 28)], 44, _, _, none⟩) rfl (fun K hK => ?_) AllReadyH.nil
  rw [if_pos (by rfl)]
  refine wp_bs 44 1 _ rfl #[(0, .agg (fA (⟨xn, .slice a9 n9 k9, xs⟩ : FC)))] (by simp [Act.eval]) _ _ (bsF xn a9 n9 k9 xs wd) ?_
  have hbx := below_new wd (.cells (fA (⟨xn, .slice a9 n9 k9, xs⟩ : FC)) 70)
  have HB := Keep.mk (Blk.new wd 70 (fA (⟨xn, .slice a9 n9 k9, xs⟩ : FC)))
  have HV10 : Keep (Own (wd.alloc (.cells (fA (⟨xn, .slice a9 n9 k9, xs⟩ : FC)) 70)) (.slice a9 n9 k9) f_.bs) := ⟨HV9.out.grown (Grown.below (S := fun _ => False) hbx) fun _ _ h => h⟩
  have BE : Keep (Below wb.heap.size wb (wd.alloc (.cells (fA (⟨xn, .slice a9 n9 k9, xs⟩ : FC)) 70))) := ⟨BD.out.trans (hbx.mono BD.out.size)⟩
  clear hbx HV9
  generalize wd.alloc (.cells (fA (⟨xn, .slice a9 n9 k9, xs⟩ : FC)) 70) = we at *
  obtain ⟨gz, hgz⟩ : ∃ q, Keep (q = wd.heap.size) := ⟨_, ⟨rfl⟩⟩
  rw [← hgz.out] at HB ⊢
  refine hK _ _ (H7.out.below BE.out H7.out.lt) fun hH3 => ?_
  clear hK
  simp only [Act.put, pqA, pqB, pqC]
  refine wpAnyH_ready (rs := [11]) (by kernel_rfl) (by simp) ?_
  refine AllReadyH.cons (o := ⟨some 30, Op.call { callee := Callee.builtin Builtin.append, args := #[Operand.tmp 19, Operand.tmp 29], argTypes := #[44, 44] }, 44, _, _, none⟩) rfl (fun K hK => ?_) AllReadyH.nil
  rw [if_pos (by rfl)]
  refine wp_appS (.tmp 19) (.tmp 29) rfl (.slice xa xl xc) (.slice (some ⟨gz, 0, none⟩) 1 1) ct [(⟨xn, .slice a9 n9 k9, xs⟩ : FC)] (fun x hx => by simp at hx; subst hx; exact ⟨_, _, _, rfl⟩) rfl rfl (JOb.out.below BE.out) (srcF_one HB.out) (by have := HL.out; have h := JFb.out.len; simp at h; simp; omega) fun v11 wf ho hg hm => ?_
  have HO11 := Keep.mk ho
  have N11 : Keep (NewF w.heap.size v11) := ⟨NewF.moved JN.out.1 (Nat.le_trans JBb.out.size BE.out.size) hm⟩
  have HF11 : Keep (FcsAt wf (ct ++ [(⟨xn, .slice a9 n9 k9, xs⟩ : FC)]) (D.fs.take (t + 1))) := ⟨fcs_more (JFb.out.grown (Grown.below (S := fun _ => False) BE.out) fun _ _ h => h) HFf.out ⟨HXb.out.1, HXb.out.2.1, HV10.out⟩ (fun j y k hj hk e => by have h1 := fcs_lt JFb.out hj hk; have h2 := N9.out k e; omega) hg (fun k hk e => by have := ((JOb.out.below BE.out).typ e).one hk; revert this; decide)⟩
  have B11 : Keep (Below w.heap.size w wf) := ⟨(JBb.out.trans (BE.out.mono JBb.out.size)).trans (hg.to_below (B := w.heap.size) (fun k hk e => by have := JN.out.1 k e; omega) (Nat.le_trans JBb.out.size BE.out.size))⟩
  have M11 : Keep (∀ (j : Nat) (y : FC) (k : Nat), (ct ++ [(⟨xn, .slice a9 n9 k9, xs⟩ : FC)])[j]? = some y → y.b.ownBlock = some k → w.heap.size ≤ k) := ⟨news_more JN.out.2 fun k hk => by have := N9.out k hk; have := JBb.out.size; omega⟩
  have HG : Keep (Blk wf g7 70 (fA (⟨xn, .slice xba f_.bs.length xbc, xs⟩ : FC))) := ⟨hg.blk (H7.out.below BE.out H7.out.lt) fun e => by have := LO.out g7 e; omega⟩
  clear ho hg hm
  obtain ⟨a11, k11, e11⟩ := HO11.out.sl
  subst e11
  obtain ⟨n11, hn11⟩ : ∃ q, Keep (q = (ct ++ [(⟨xn, .slice a9 n9 k9, xs⟩ : FC)]).length) := ⟨_, ⟨rfl⟩⟩
  rw [← hn11.out] at HO11 N11 ⊢
  refine hK _ _ HG.out fun hH4 => ?_
  clear hK
  simp only [Act.put, pqA, pqB, pqC]
  refine tkS (i := 12) (oi := ⟨some 3, Op.assign (Operand.tmp 30), 44, _, _, none⟩) (v := .slice a11 n11 k11) rfl (Or.inl ⟨by rfl, fun w hS => by have s0 := hS.c 0 (by rfl : (fA (⟨xn, .slice xba f_.bs.length xbc, xs⟩ : FC))[0]? = some (.string xn)); have s1 := hS.c 1 (by rfl : (fA (⟨xn, .slice xba f_.bs.length xbc, xs⟩ : FC))[1]? = some (.slice xba f_.bs.length xbc)); have s2 := hS.c 2 (by rfl : (fA (⟨xn, .slice xba f_.bs.length xbc, xs⟩ : FC))[2]? = some (.int .i64 xs)); go_simp⟩) hH4 ?_
  refine wpAnyH_done (by kernel_rfl) ?_ _
  refine hK7 _ _ ?_
  refine rgn ?_
  refine VlS (.int .i64 ((t : Int) + 1)) ?_
  refine VlS (.int .i64 ((t : Int) + 1)) ?_
  refine WL.nil ?_
  refine ⟨⟨t + 1, fun i => [.pointer (some ⟨h, 0, none⟩), undef, .slice none 0 0, .slice a11 n11 k11, undef, .pointer (some ⟨g7, 0, none⟩), .slice (some ⟨g1, 0, none⟩) 0 0, .pointer (some ⟨h, 0, none⟩), .pointer (some ⟨h, 0, none⟩), .pointer (some ⟨h, 0, none⟩), .pointer (some ⟨p, 0, none⟩), .pointer (some ⟨p, 0, none⟩), .pointer (some ⟨p, 0, none⟩), .slice (some ⟨g, 0, none⟩) cs.length vc, .int .i64 (cs.length : Int), .int .i64 ((t : Int) + 1), .bool true, .pointer (some ⟨g, t * 3, none⟩), .agg (fA (⟨xn, .slice xba f_.bs.length xbc, xs⟩ : FC)), .slice xa xl xc, .pointer (some ⟨g7, 0, none⟩), .string xn, .slice (some ⟨ge, 0, none⟩) 0 0, .pointer (some ⟨g7, 1, none⟩), .slice xba f_.bs.length xbc, .slice a9 n9 k9, .pointer (some ⟨g7, 2, none⟩), .int .i64 xs, .agg (fA (⟨xn, .slice a9 n9 k9, xs⟩ : FC)), .slice (some ⟨gz, 0, none⟩) 1 1, .slice a11 n11 k11, .int .i64 ((t : Int) + 1), undef].getD i undef, a11, n11, k11, ct ++ [⟨xn, .slice a9 n9 k9, xs⟩], rfl, by omega, HO11.out, HF11.out, ⟨N11.out, M11.out⟩, B11.out⟩, ?_⟩
  simp only [intOf]; show cs.length - ((t : Int) + 1).toNat < cs.length - ((t : Int)).toNat; omega
 ·have hlt' : ¬ (t : Int) < (cs.length : Int) := by omega
  have hte : Keep (t = cs.length) := ⟨by omega⟩
  refine wp_seq_k fun K9 hK9 => rgn ?_
  refine VlS (.bool false) ?_
  refine WL.nil (hK9 _ _ ?_)
  refine wp_seq_k fun K10 hK10 => ?_
  refine wp_cond_false rfl ?_
  refine wp_exit ?_
  refine hK3 _ _ ?_
  refine wp_seq_k fun K11 hK11 => rgn ?_
  refine VlS (.slice xa xl xc) ?_
  refine VlS (.slice xa xl xc) ?_
  refine WL.nil (hK11 _ _ ?_)
  refine wp_ret ?_
  go_ret
  refine ⟨_, ct, rfl, JO.out, ?_, JN.out.1, JN.out.2, JB.out⟩
  have h := JF.out
  rw [List.take_of_length_le (by have := HD.out.fcs.len; have := hte.out; omega)] at h
  exact h
theorem nextW_like {c d : Nat → Int} {t : Nat} (ht : 16 ≤ t) (h : ∀ i, i < t → c i = d i) : nextW c t = nextW d t := by
 unfold nextW; rw [h (t - 16) (by omega), h (t - 15) (by omega), h (t - 7) (by omega), h (t - 2) (by omega)]
theorem be32_like {c d : Nat → Int} {t : Nat} (ht : t < 16) (h : ∀ i, i < 64 → c i = d i) : be32 c t = be32 d t := by
 unfold be32; rw [h (4 * t) (by omega), h (4 * t + 1) (by omega), h (4 * t + 2) (by omega), h (4 * t + 3) (by omega)]
def rL (r : R8) : List Int := [r.a, r.b, r.c, r.d, r.e, r.f, r.g, r.h]
def rOf (l : List Int) : R8 := r8 (fun i => l.getD i 0)
theorem rOf_L (r : R8) : rOf (rL r) = r := rfl
structure STab (S B W : List Int) (R : List (List Int)) (O : List Int) : Prop where
 w : ∀ t : Fin 64, (if t.val < 16 then be32 (fun i => B.getD i 0) t.val else nextW (fun i => W.getD i 0) t.val) = W.getD t.val 0
 r : ∀ t : Fin 64, rL (stepF (roundsF t.val) (W.getD t.val 0) (rOf (R.getD t.val []))) = R.getD (t.val + 1) []
 r0 : rL (rOf S) = R.getD 0 []
 o : ∀ i : Fin 8, outF (fun i => S.getD i 0) (rOf (R.getD 64 [])) i.val = O.getD i.val 0
theorem STab.sch {S B W : List Int} {R : List (List Int)} {O : List Int} (h : STab S B W R O) (p : Nat → Int) (hp : ∀ i, i < 64 → p i = B.getD i 0) (t : Nat) (ht : t ≤ 64) : ∀ i, i < t → sched p t i = W.getD i 0 := by
 induction t with
 | zero => intro i h; omega
 | succ t ih =>
  intro i hi
  simp only [sched, upd]
  by_cases e : i = t
  ·subst e
   rw [if_pos rfl, ← h.w ⟨i, by omega⟩]
   by_cases h16 : i < 16
   ·rw [if_pos h16, if_pos h16]; exact be32_like h16 hp
   ·rw [if_neg h16, if_neg h16]; exact nextW_like (by omega) (fun j hj => ih (by omega) j hj)
  ·rw [if_neg e]; exact ih (by omega) i (by omega)
theorem r8_like {c d : Nat → Int} (h : ∀ i, i < 8 → c i = d i) : r8 c = r8 d := by
 unfold r8; rw [h 0 (by omega), h 1 (by omega), h 2 (by omega), h 3 (by omega), h 4 (by omega), h 5 (by omega), h 6 (by omega), h 7 (by omega)]
theorem outF_like {c d : Nat → Int} (h : ∀ i, i < 8 → c i = d i) (r : R8) : outF c r = outF d r := by
 funext i; unfold outF; rw [h 0 (by omega), h 1 (by omega), h 2 (by omega), h 3 (by omega), h 4 (by omega), h 5 (by omega), h 6 (by omega), h 7 (by omega)]
theorem STab.run {S B W : List Int} {R : List (List Int)} {O : List Int} (h : STab S B W R O) (s : Nat → Int) (hs : ∀ i, i < 8 → s i = S.getD i 0) (ww : Nat → Int) (hw : ∀ i, i < 64 → ww i = W.getD i 0) (t : Nat) (ht : t ≤ 64) : rL (runF roundsF ww (r8 s) t) = R.getD t [] := by
 induction t with
 | zero => rw [← h.r0]; show rL (r8 s) = rL (rOf S); rw [show r8 s = rOf S from r8_like hs]
 | succ t ih =>
  simp only [runF]
  rw [← h.r ⟨t, by omega⟩, ← ih (by omega), rOf_L, hw t (by omega)]
theorem STab.mix {S B W : List Int} {R : List (List Int)} {O : List Int} (h : STab S B W R O) (s : Nat → Int) (hs : ∀ i, i < 8 → s i = S.getD i 0) (p : Nat → Int) (hp : ∀ i, i < 64 → p i = B.getD i 0) : ∀ i, i < 8 → mixF s p i = O.getD i 0 := by
 intro i hi
 have h1 := h.run s hs (sched p 64) (h.sch p hp 64 (Nat.le_refl _)) 64 (Nat.le_refl _)
 unfold mixF
 rw [← rOf_L (runF roundsF (sched p 64) (r8 s) 64), h1, outF_like hs]
 exact h.o ⟨i, hi⟩
def piece0 (C : List Int) : Nat → Int := putN (putN (fun _ => 0) 0 C.length fun i => C.getD i 0) C.length (64 - C.length) (endX C.length)
theorem sha_one (C : List Int) (hC : C.length ≤ 55) : shaP C = layUp (mixF beginF (piece0 C)) 8 := by
 have h2 : absorbL dg0 C = ⟨beginF, putN (fun _ => 0) 0 C.length (fun i => C.getD i 0), C.length⟩ := by
  rw [← absorbN_all, absorb_chunk dg0 _ C.length (by show 0 % 64 + C.length ≤ 64; omega)]
  rw [if_neg (by show ¬ 0 % 64 + C.length = 64; omega)]
  simp [dg0]
 have hz : zerosF C.length + 9 = 64 - C.length := by unfold zerosF; omega
 have hm : C.length % 64 = C.length := by omega
 unfold shaP sumF
 rw [h2]
 dsimp only
 rw [hz, absorb_chunk _ _ (64 - C.length) (by dsimp only; omega)]
 dsimp only
 rw [hm, if_pos (by omega)]
 rfl
theorem layUp_like {c d : Nat → Int} (h : ∀ i, i < 8 → c i = d i) (t : Nat) (ht : t ≤ 8) : layUp c t = layUp d t := by
 induction t with
 | zero => rfl
 | succ t ih => simp only [layUp]; rw [ih (by omega), h t (by omega)]
def abS : List Int := [1779033703, 3144134277, 1013904242, 2773480762, 1359893119, 2600822924, 528734635, 1541459225]
def abB : List Int := [97, 98, 128, 0, 0, 0, 0, 0, 0, 0, 0, 0, 0, 0, 0, 0, 0, 0, 0, 0, 0, 0, 0, 0, 0, 0, 0, 0, 0, 0, 0, 0, 0, 0, 0, 0, 0, 0, 0, 0, 0, 0, 0, 0, 0, 0, 0, 0, 0, 0, 0, 0, 0, 0, 0, 0, 0, 0, 0, 0, 0, 0, 0, 16]
def abW : List Int := [1633845248, 0, 0, 0, 0, 0, 0, 0, 0, 0, 0, 0, 0, 0, 0, 16, 1633845248, 655360, 270033981, 1073742468, 1050487830, 16951296, 864452582, 1650638859, 4027399724, 1211410954, 2028988364, 4277374028, 268710035, 3944143914, 549890843, 1386658034, 2860467165, 1704602302, 1491927166, 12639368, 4093457531, 3985429324, 1833301693, 155258341, 3528335737, 3062717792, 3012079207, 539425273, 1076043381, 2496143508, 1471727768, 3093250499, 3643758778, 432964173, 3888910579, 1993602963, 3286075862, 3578358685, 600467822, 3702232564, 3868419969, 1230845418, 1369500673, 1165505681, 3029804626, 3722238860, 3963502664, 1311518612]
def abR : List (List Int) := [[1779033703, 3144134277, 1013904242, 2773480762, 1359893119, 2600822924, 528734635, 1541459225],
 [1567295565, 1779033703, 3144134277, 1013904242, 4197081762, 1359893119, 2600822924, 528734635],
 [3771592872, 1567295565, 1779033703, 3144134277, 3904903575, 4197081762, 1359893119, 2600822924],
 [1244149001, 3771592872, 1567295565, 1779033703, 311372123, 3904903575, 4197081762, 1359893119],
 [3332301780, 1244149001, 3771592872, 1567295565, 2385191175, 311372123, 3904903575, 4197081762],
 [3636599127, 3332301780, 1244149001, 3771592872, 521228548, 2385191175, 311372123, 3904903575],
 [151833283, 3636599127, 3332301780, 1244149001, 3932515056, 521228548, 2385191175, 311372123],
 [3520778562, 151833283, 3636599127, 3332301780, 2885927810, 3932515056, 521228548, 2385191175],
 [2655857540, 3520778562, 151833283, 3636599127, 905708628, 2885927810, 3932515056, 521228548],
 [4057219706, 2655857540, 3520778562, 151833283, 3794789662, 905708628, 2885927810, 3932515056],
 [3376610011, 4057219706, 2655857540, 3520778562, 29887585, 3794789662, 905708628, 2885927810],
 [4181491042, 3376610011, 4057219706, 2655857540, 3261941830, 29887585, 3794789662, 905708628],
 [1858790193, 4181491042, 3376610011, 4057219706, 1863726812, 3261941830, 29887585, 3794789662],
 [199566772, 1858790193, 4181491042, 3376610011, 2864275867, 1863726812, 3261941830, 29887585],
 [371626581, 199566772, 1858790193, 4181491042, 3081593237, 2864275867, 1863726812, 3261941830],
 [1479292645, 371626581, 199566772, 1858790193, 4112109337, 3081593237, 2864275867, 1863726812],
 [1686594463, 1479292645, 371626581, 199566772, 1731442211, 4112109337, 3081593237, 2864275867],
 [3808100401, 1686594463, 1479292645, 371626581, 3261428162, 1731442211, 4112109337, 3081593237],
 [377016914, 3808100401, 1686594463, 1479292645, 918499731, 3261428162, 1731442211, 4112109337],
 [3565255831, 377016914, 3808100401, 1686594463, 3513426526, 918499731, 3261428162, 1731442211],
 [1319397705, 3565255831, 377016914, 3808100401, 3351631961, 3513426526, 918499731, 3261428162],
 [2383999480, 1319397705, 3565255831, 377016914, 2452434827, 3351631961, 3513426526, 918499731],
 [2905686982, 2383999480, 1319397705, 3565255831, 631500222, 2452434827, 3351631961, 3513426526],
 [3243406427, 2905686982, 2383999480, 1319397705, 2536336219, 631500222, 2452434827, 3351631961],
 [3796629245, 3243406427, 2905686982, 2383999480, 2290349548, 2536336219, 631500222, 2452434827],
 [3487408536, 3796629245, 3243406427, 2905686982, 2617050184, 2290349548, 2536336219, 631500222],
 [94234649, 3487408536, 3796629245, 3243406427, 2780545362, 2617050184, 2290349548, 2536336219],
 [1156166818, 94234649, 3487408536, 3796629245, 3360626021, 2780545362, 2617050184, 2290349548],
 [3480678056, 1156166818, 94234649, 3487408536, 3639247255, 3360626021, 2780545362, 2617050184],
 [1546931861, 3480678056, 1156166818, 94234649, 1223860325, 3639247255, 3360626021, 2780545362],
 [1331118160, 1546931861, 3480678056, 1156166818, 367170130, 1223860325, 3639247255, 3360626021],
 [1207172810, 1331118160, 1546931861, 3480678056, 4044388681, 367170130, 1223860325, 3639247255],
 [3627086696, 1207172810, 1331118160, 1546931861, 2950343182, 4044388681, 367170130, 1223860325],
 [546573902, 3627086696, 1207172810, 1331118160, 3201109086, 2950343182, 4044388681, 367170130],
 [473520161, 546573902, 3627086696, 1207172810, 2154977910, 3201109086, 2950343182, 4044388681],
 [1887836829, 473520161, 546573902, 3627086696, 1021545293, 2154977910, 3201109086, 2950343182],
 [1946675235, 1887836829, 473520161, 546573902, 2332314153, 1021545293, 2154977910, 3201109086],
 [2034328568, 1946675235, 1887836829, 473520161, 2719171134, 2332314153, 1021545293, 2154977910],
 [2892689888, 2034328568, 1946675235, 1887836829, 1417702456, 2719171134, 2332314153, 1021545293],
 [1769691782, 2892689888, 2034328568, 1946675235, 1306867109, 1417702456, 2719171134, 2332314153],
 [3972128353, 1769691782, 2892689888, 2034328568, 1414974918, 1306867109, 1417702456, 2719171134],
 [1653937629, 3972128353, 1769691782, 2892689888, 1612974288, 1414974918, 1306867109, 1417702456],
 [1432415604, 1653937629, 3972128353, 1769691782, 4141964346, 1612974288, 1414974918, 1306867109],
 [2720816116, 1432415604, 1653937629, 3972128353, 2845218806, 4141964346, 1612974288, 1414974918],
 [3022584952, 2720816116, 1432415604, 1653937629, 4169443278, 2845218806, 4141964346, 1612974288],
 [3264630472, 3022584952, 2720816116, 1432415604, 63171240, 4169443278, 2845218806, 4141964346],
 [3788923304, 3264630472, 3022584952, 2720816116, 1966230554, 63171240, 4169443278, 2845218806],
 [1072399976, 3788923304, 3264630472, 3022584952, 2496479254, 1966230554, 63171240, 4169443278],
 [2364285374, 1072399976, 3788923304, 3264630472, 3399227669, 2496479254, 1966230554, 63171240],
 [3021842557, 2364285374, 1072399976, 3788923304, 2860269664, 3399227669, 2496479254, 1966230554],
 [296396287, 3021842557, 2364285374, 1072399976, 3729271561, 2860269664, 3399227669, 2496479254],
 [1724366874, 296396287, 3021842557, 2364285374, 3506490391, 3729271561, 2860269664, 3399227669],
 [2305248929, 1724366874, 296396287, 3021842557, 1533091901, 3506490391, 3729271561, 2860269664],
 [1261157241, 2305248929, 1724366874, 296396287, 1928495236, 1533091901, 3506490391, 3729271561],
 [3240460378, 1261157241, 2305248929, 1724366874, 1601898865, 1928495236, 1533091901, 3506490391],
 [3883034754, 3240460378, 1261157241, 2305248929, 1618254821, 1601898865, 1928495236, 1533091901],
 [3189420121, 3883034754, 3240460378, 1261157241, 1341434994, 1618254821, 1601898865, 1928495236],
 [1248977900, 3189420121, 3883034754, 3240460378, 652264656, 1341434994, 1618254821, 1601898865],
 [3428054140, 1248977900, 3189420121, 3883034754, 3566533041, 652264656, 1341434994, 1618254821],
 [2940877708, 3428054140, 1248977900, 3189420121, 3913631457, 3566533041, 652264656, 1341434994],
 [2411834110, 2940877708, 3428054140, 1248977900, 2687410524, 3913631457, 3566533041, 652264656],
 [822279815, 2411834110, 2940877708, 3428054140, 4185995498, 2687410524, 3913631457, 3566533041],
 [1341247529, 822279815, 2411834110, 2940877708, 964681381, 4185995498, 2687410524, 3913631457],
 [1927581855, 1341247529, 822279815, 2411834110, 4235600577, 964681381, 4185995498, 2687410524],
 [2441362069, 1927581855, 1341247529, 822279815, 3814999612, 4235600577, 964681381, 4185995498]]
def abO : List Int := [4220395772, 776748836, 2355151771, 3595760577, 879925435, 2541456205, 1493416016, 1432487427]
def abH : List Int := [251, 142, 32, 252, 46, 76, 63, 36, 140, 96, 195, 155, 214, 82, 243, 193, 52, 114, 152, 187, 151, 123, 139, 77, 89, 3, 184, 80, 85, 98, 6, 3]
theorem abT : STab abS abB abW abR abO where
 w := by decide +kernel
 r := by decide +kernel
 r0 := by decide +kernel
 o := by decide +kernel
theorem ab_p : ∀ i : Fin 64, piece0 [97, 98] i.val = abB.getD i.val 0 := by decide +kernel
theorem ab_b : ∀ i : Fin 8, beginF i.val = abS.getD i.val 0 := by decide +kernel
theorem ab_l : ∀ i : Fin 32, layUp (fun i => abO.getD i 0) 8 i.val = abH.getD i.val 0 := by decide +kernel
theorem ab_sha (i : Nat) (hi : i < 32) : shaP [97, 98] i = abH.getD i 0 := by
 rw [sha_one [97, 98] (by decide)]
 have h1 := abT.mix beginF (fun i hi => ab_b ⟨i, hi⟩) (piece0 [97, 98]) (fun i hi => ab_p ⟨i, hi⟩)
 rw [layUp_like (d := fun i => abO.getD i 0) h1 8 (Nat.le_refl _)]
 exact ab_l ⟨i, hi⟩
end Go.Proofs.YtennogmeeefopaaDoor
