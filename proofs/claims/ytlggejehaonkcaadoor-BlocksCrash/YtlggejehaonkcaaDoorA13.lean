import Derived.Test.YtlggejehaonkcaaDoorA12
import Derived.Test.YtlggejehaonkcaaDoorA10
import Derived.Deep.RegionHeld3
import Derived.Deep.MidRow
import Derived.Lib.Small
import Derived.Lib.ConvBytes
import Derived.ChangeKeysEq
import Derived.Laws.StructEq
import Derived.Laws.Cover3
import Derived.Maps.Own
namespace Go.Proofs.YtlggejehaonkcaaDoor
open Go.RowKit
set_option linter.unusedSimpArgs false
set_option linter.unusedVariables false

set_option maxRecDepth 8000 in
theorem japp_empty (g d p : Nat) (v : Value) (l : List Int) (D : DV) (V : JV) (la : Bool) (sure : Nat) (N : Nat → Prop) (w : World) (hT : Tab w) (hDN : JDN w g d p D V la false N) (hNl : ∀ k, N k → k < w.heap.size) (hd : ¬ N d) (hX : JX D V la sure) (hA : D.acts ≤ 4611686018427380000) (hR : RowAt w v l) (hRn : l ≠ [] → ∀ k, v.ownBlock = some k → ¬ N k) (hBy : Byts l) (hL : l.length = 0) : Calls Tryd.prog 20 #[ptr g, v] w (JAppPost D V la l sure g d p N w) := by
 obtain ⟨hDk, vf, cs, vp, hD, hJ, hP, hN⟩ := hDN
 obtain ⟨ba, bc, rfl⟩ := row_form hR
 have HT := Keep.mk hT
 have HDk := Keep.mk hDk
 have HD := Keep.mk hD
 have HJ := Keep.mk hJ
 have HP := Keep.mk hP
 have HN := Keep.mk hN
 have HNl := Keep.mk hNl
 have Hd := Keep.mk hd
 have HX := Keep.mk hX
 have HA := Keep.mk hA
 have HR := Keep.mk hR
 have HRn := Keep.mk hRn
 have HBy := Keep.mk hBy
 have HZ : Keep (0 < w.heap.size) := ⟨Nat.lt_of_le_of_lt (Nat.zero_le _) hDk.lt⟩
 have HL := Keep.mk hL
 clear hL
 clear hT hDk hD hJ hP hN hNl hd hX hA hR hRn hBy
 go_enter Tryd.func20, Tryd.ntmps20
 have c5 := HJ.out.c 5 (by rfl : (jA d vp V.pr V.sz la false)[5]? = some (.bool false))
 have hl0 : (l.length : Int) = 0 := by have := HL.out; omega
 have hln : l.length = 0 := HL.out
 refine wp_seq_k fun K1 hK1 => rgn ?_
 refine VlS (.int .i64 0) ?_
 refine WL.nil (hK1 _ _ ?_)
 refine wp_seq_k fun K2 hK2 => ?_
 refine wp_block ?_
 refine wp_seq_k fun K3 hK3 => rgn ?_
 refine VlS (.pointer (some ⟨g, 0, none⟩)) ?_
 refine VlS (.pointer (some ⟨g, 0, none⟩)) ?_
 refine VlS (.pointer (some ⟨g, 5, none⟩)) ?_
 refine VlS (.bool false) ?_
 refine VlS (.bool false) ?_
 refine WL.nil (hK3 _ _ ?_)
 refine wp_cond_false rfl ?_
 refine wp_seq_k fun K4 hK4 => rgn ?_
 refine VlS (.slice ba l.length bc) ?_
 refine VlS (.int .i64 (l.length : Int)) ?_
 refine VlS (.bool true) ?_
 refine VlS (.bool true) ?_
 refine WL.nil (hK4 _ _ ?_)
 refine wp_cond_true rfl ?_
 refine wp_seq_k fun K5 hK5 => rgn ?_
 refine VlS (.int .i64 1) ?_
 refine WL.nil (hK5 _ _ ?_)
 refine wp_ret ?_
 go_ret
 exact ⟨1, D, V, la, false, rfl, ⟨HDk.out, vf, cs, vp, HD.out, HJ.out, HP.out, fun k hk => ⟨.inl (HN.out k hk), HNl.out k (HN.out k hk)⟩⟩, Grown.refl _ _, by omega, .inr (.inr ⟨.inl rfl, rfl, rfl, HX.out⟩)⟩
set_option maxRecDepth 8000 in
theorem japp_big (g d p : Nat) (v : Value) (l : List Int) (D : DV) (V : JV) (la : Bool) (sure : Nat) (N : Nat → Prop) (w : World) (hT : Tab w) (hDN : JDN w g d p D V la false N) (hNl : ∀ k, N k → k < w.heap.size) (hd : ¬ N d) (hX : JX D V la sure) (hA : D.acts ≤ 4611686018427380000) (hR : RowAt w v l) (hRn : l ≠ [] → ∀ k, v.ownBlock = some k → ¬ N k) (hBy : Byts l) (hL : 1048576 < l.length) : Calls Tryd.prog 20 #[ptr g, v] w (JAppPost D V la l sure g d p N w) := by
 obtain ⟨hDk, vf, cs, vp, hD, hJ, hP, hN⟩ := hDN
 obtain ⟨ba, bc, rfl⟩ := row_form hR
 have HT := Keep.mk hT
 have HDk := Keep.mk hDk
 have HD := Keep.mk hD
 have HJ := Keep.mk hJ
 have HP := Keep.mk hP
 have HN := Keep.mk hN
 have HNl := Keep.mk hNl
 have Hd := Keep.mk hd
 have HX := Keep.mk hX
 have HA := Keep.mk hA
 have HR := Keep.mk hR
 have HRn := Keep.mk hRn
 have HBy := Keep.mk hBy
 have HZ : Keep (0 < w.heap.size) := ⟨Nat.lt_of_le_of_lt (Nat.zero_le _) hDk.lt⟩
 have HL := Keep.mk hL
 clear hL
 clear hT hDk hD hJ hP hN hNl hd hX hA hR hRn hBy
 go_enter Tryd.func20, Tryd.ntmps20
 have c5 := HJ.out.c 5 (by rfl : (jA d vp V.pr V.sz la false)[5]? = some (.bool false))
 have hl0 : ¬ (l.length : Int) = 0 := by have := HL.out; omega
 have hln : ¬ l.length = 0 := by have := HL.out; omega
 have hl1 : (1048576 : Int) < (l.length : Int) := by have := HL.out; omega
 have hl2 : 1048576 < l.length := HL.out
 refine wp_seq_k fun K1 hK1 => rgn ?_
 refine VlS (.int .i64 0) ?_
 refine WL.nil (hK1 _ _ ?_)
 refine wp_seq_k fun K2 hK2 => ?_
 refine wp_block ?_
 refine wp_seq_k fun K3 hK3 => rgn ?_
 refine VlS (.pointer (some ⟨g, 0, none⟩)) ?_
 refine VlS (.pointer (some ⟨g, 0, none⟩)) ?_
 refine VlS (.pointer (some ⟨g, 5, none⟩)) ?_
 refine VlS (.bool false) ?_
 refine VlS (.bool false) ?_
 refine WL.nil (hK3 _ _ ?_)
 refine wp_cond_false rfl ?_
 refine wp_seq_k fun K4 hK4 => rgn ?_
 refine VlS (.slice ba l.length bc) ?_
 refine VlS (.int .i64 (l.length : Int)) ?_
 refine VlS (.bool false) ?_
 refine VlS (.bool false) ?_
 refine WL.nil (hK4 _ _ ?_)
 refine wp_cond_false rfl ?_
 refine wp_seq_k fun K5 hK5 => rgn ?_
 refine VlS (.slice ba l.length bc) ?_
 refine VlS (.int .i64 (l.length : Int)) ?_
 refine VlS (.bool true) ?_
 refine VlS (.bool true) ?_
 refine WL.nil (hK5 _ _ ?_)
 refine wp_cond_true rfl ?_
 refine wp_seq_k fun K6 hK6 => rgn ?_
 refine VlS (.int .i64 4) ?_
 refine WL.nil (hK6 _ _ ?_)
 refine wp_ret ?_
 go_ret
 exact ⟨4, D, V, la, false, rfl, ⟨HDk.out, vf, cs, vp, HD.out, HJ.out, HP.out, fun k hk => ⟨.inl (HN.out k hk), HNl.out k (HN.out k hk)⟩⟩, Grown.refl _ _, by omega, .inr (.inr ⟨.inr (.inl rfl), rfl, rfl, HX.out⟩)⟩
set_option maxRecDepth 8000 in
set_option maxHeartbeats 2000000 in
theorem japp_first (g d p : Nat) (v : Value) (l : List Int) (D : DV) (V : JV) (la : Bool) (sure : Nat) (N : Nat → Prop) (w : World) (hT : Tab w) (hDN : JDN w g d p D V la false N) (hNl : ∀ k, N k → k < w.heap.size) (hd : ¬ N d) (hX : JX D V la sure) (hA : D.acts ≤ 4611686018427380000) (hR : RowAt w v l) (hRn : l ≠ [] → ∀ k, v.ownBlock = some k → ¬ N k) (hBy : Byts l) (hPo : PayOk l) (hpr0 : V.pr = -1) : Calls Tryd.prog 20 #[ptr g, v] w (JAppPost D V la l sure g d p N w) := by
 obtain ⟨hDk, vf, cs, vp, hD, hJ, hP, hN⟩ := hDN
 obtain ⟨ba, bc, rfl⟩ := row_form hR
 have HT := Keep.mk hT
 have HDk := Keep.mk hDk
 have HD := Keep.mk hD
 have HJ := Keep.mk hJ
 have HP := Keep.mk hP
 have HN := Keep.mk hN
 have HNl := Keep.mk hNl
 have Hd := Keep.mk hd
 have HX := Keep.mk hX
 have HA := Keep.mk hA
 have HR := Keep.mk hR
 have HRn := Keep.mk hRn
 have HBy := Keep.mk hBy
 have HZ : Keep (0 < w.heap.size) := ⟨Nat.lt_of_le_of_lt (Nat.zero_le _) hDk.lt⟩
 have HPo := Keep.mk hPo
 have hpr := Keep.mk hpr0
 clear hPo hpr0
 clear hT hDk hD hJ hP hN hNl hd hX hA hR hRn hBy
 go_enter Tryd.func20, Tryd.ntmps20
 have c5 := HJ.out.c 5 (by rfl : (jA d vp V.pr V.sz la false)[5]? = some (.bool false))
 have hl0 : ¬ (l.length : Int) = 0 := by have := HPo.out.1; omega
 have hl1 : ¬ (1048576 : Int) < (l.length : Int) := by have := HPo.out.2; omega
 have hln : ¬ l.length = 0 := by have := HPo.out.1; omega
 have hwl : IntKind.i64.wrap (16 + (l.length : Int)) = 16 + (l.length : Int) := by rw [IntKind.wrap_i64]; have := HPo.out.2; omega
 refine wp_seq_k fun K1 hK1 => rgn ?_
 refine VlS (.int .i64 0) ?_
 refine WL.nil (hK1 _ _ ?_)
 refine wp_seq_k fun K2 hK2 => ?_
 refine wp_block ?_
 refine wp_seq_k fun K3 hK3 => rgn ?_
 refine VlS (.pointer (some ⟨g, 0, none⟩)) ?_
 refine VlS (.pointer (some ⟨g, 0, none⟩)) ?_
 refine VlS (.pointer (some ⟨g, 5, none⟩)) ?_
 refine VlS (.bool false) ?_
 refine VlS (.bool false) ?_
 refine WL.nil (hK3 _ _ ?_)
 refine wp_cond_false rfl ?_
 refine wp_seq_k fun K4 hK4 => rgn ?_
 refine VlS (.slice ba l.length bc) ?_
 refine VlS (.int .i64 (l.length : Int)) ?_
 refine VlS (.bool false) ?_
 refine VlS (.bool false) ?_
 refine WL.nil (hK4 _ _ ?_)
 refine wp_cond_false rfl ?_
 refine wp_seq_k fun K5 hK5 => rgn ?_
 refine VlS (.slice ba l.length bc) ?_
 refine VlS (.int .i64 (l.length : Int)) ?_
 refine VlS (.bool false) ?_
 refine VlS (.bool false) ?_
 refine WL.nil (hK5 _ _ ?_)
 refine wp_cond_false rfl ?_
 refine wp_skip ?_
 refine hK2 _ _ ?_
 refine wp_seq_k fun K6 hK6 => rgn ?_
 refine VlS (.pointer (some ⟨g, 0, none⟩)) ?_
 refine VlS (.slice ba l.length bc) ?_
 refine VlS (.int .i64 (l.length : Int)) ?_
 refine VlS (.int .i64 (16 + (l.length : Int))) ?_
 clear c5 hl0 hl1 hln hwl
 refine WL.callF (by kernel_rfl) 33 _ _ rfl Tryd.in33 #[ptr g, .int .i64 (16 + (l.length : Int))] (by simp [Act.eval]) ?_
 refine (next_none g _ w (by rw [← hpr.out]; exact HJ.out.c 2 rfl)).mono ?_
 rintro e w1 ⟨rfl, hb1⟩
 refine ⟨_, rfl, ?_⟩
 have B1 := Keep.mk hb1
 clear hb1
 simp only [Act.put, pqA, pqB, pqC]
 refine WL.new (by kernel_rfl) 88 rfl _ Tryd.newPl ?_
 have HQ0 := Keep.mk (Blk.new w1 88 #[.int .i64 0, .int .i64 0])
 have hbx := below_new w1 (.cells #[.int .i64 0, .int .i64 0] 88)
 have B2 : Keep (Below w.heap.size w (w1.alloc (.cells #[.int .i64 0, .int .i64 0] 88))) := ⟨B1.out.trans (hbx.mono B1.out.size)⟩
 clear hbx
 change WL _ _ _ _ _ (w1.alloc (.cells #[.int .i64 0, .int .i64 0] 88))
 generalize w1.alloc (.cells #[.int .i64 0, .int .i64 0] 88) = w2 at *
 obtain ⟨q, hq⟩ : ∃ p, Keep (p = w1.heap.size) := ⟨_, ⟨rfl⟩⟩
 rw [← hq.out] at HQ0 ⊢
 have hqw : Keep (w.heap.size ≤ q) := ⟨by rw [hq.out]; exact B1.out.size⟩
 simp only [Act.put, pqA, pqB, pqC]
 refine WL.storeR (by kernel_rfl) 88 (.tmp 5) (.tmp 25) rfl q #[.int .i64 0, .int .i64 0] rfl rfl 88 #[.int .i64 0, .int .i64 0] HQ0.out (by kernel_rfl) rfl (by kernel_rfl) ?_
 have HQ := Keep.mk (HQ0.out.setRow #[.int .i64 0, .int .i64 0])
 have B3 : Keep (Below w.heap.size w (w2.setRow q #[.int .i64 0, .int .i64 0])) := ⟨below_setRow B2.out hqw.out _⟩
 clear HQ0 B1 B2 hq
 generalize w2.setRow q #[.int .i64 0, .int .i64 0] = w3 at *
 have q0 := HQ.out.c 0 (by rfl : (#[.int .i64 0, .int .i64 0] : Array Value)[0]? = some (.int .i64 0))
 have J3 := Keep.mk (HJ.out.below B3.out HJ.out.lt)
 simp only [Act.put]
 refine WL.nil (hK6 _ _ ?_)
 refine wp_seq_k fun K7 hK7 => ?_
 refine wp_seq_k fun K8 hK8 => rgn ?_
 refine VlS (.pointer (some ⟨q, 0, none⟩)) ?_
 refine VlS (.int .i64 0) ?_
 refine VlS (.bool false) ?_
 refine WL.nil (hK8 _ _ ?_)
 refine wp_cond_false rfl ?_
 refine wp_skip ?_
 refine hK7 _ _ ?_
 refine wp_seq_k fun K9 hK9 => ?_
 refine wp_seq_k fun K10 hK10 => ?_
 clear q0
 have J4 : Keep (Blk w3.drew g 81 (jA d vp V.pr V.sz la false)) := ⟨J3.out.drew⟩
 have Q4 : Keep (Blk w3.drew q 88 #[.int .i64 0, .int .i64 0]) := ⟨HQ.out.drew⟩
 have B4 : Keep (Below w.heap.size w w3.drew) := ⟨B3.out.drew⟩
 clear J3 HQ B3
 refine wp_region_held_drew (S := fun wx => wx.cell? ⟨g, 2, none⟩ = some (.int .i64 (-1))) (by kernel_rfl) (by rw [← hpr.out]; exact J4.out.c 2 rfl) (fun hHeld => ?_)
 generalize w3.drew = w4 at *
 refine tkS (i := 0) (oi := ⟨some 29, Op.move (Operand.tmp 0), 56, _, _, none⟩) (v := .pointer (some ⟨g, 0, none⟩)) rfl (Or.inl ⟨by rfl, fun w hS => by go_simp⟩) hHeld ?_
 refine tkS (i := 1) (oi := ⟨some 30, Op.nilCheck (Operand.tmp 29), 0, _, _, none⟩) (v := .pointer (some ⟨g, 0, none⟩)) rfl (Or.inl ⟨by rfl, fun w hS => by go_simp⟩) hHeld ?_
 refine tkS (i := 2) (oi := ⟨some 31, Op.fieldAddr 81 (Operand.tmp 30) 2, 0, _, _, none⟩) (v := .pointer (some ⟨g, 2, none⟩)) rfl (Or.inl ⟨by rfl, fun w hS => by go_simp⟩) hHeld ?_
 refine tkS (i := 3) (oi := ⟨some 32, Op.load 3 (Operand.tmp 31), 3, _, _, none⟩) (v := .int .i64 (-1)) rfl (Or.inl ⟨by rfl, fun w hS => by go_simp⟩) hHeld ?_
 refine tkS (i := 4) (oi := ⟨some 33, Op.binOp BinOp.neq 3 (Operand.tmp 32) (Operand.const (Value.int IntKind.i64 (-1))) 3, 4, _, _, none⟩) (v := .bool false) rfl (Or.inl ⟨by rfl, fun w hS => by go_simp⟩) hHeld ?_
 refine tkS (i := 5) (oi := ⟨some 34, Op.move (Operand.tmp 33), 4, _, _, none⟩) (v := .bool false) rfl (Or.inl ⟨by rfl, fun w hS => by go_simp⟩) hHeld ?_
 refine tkS (i := 6) (oi := ⟨some 35, Op.fieldAddr 88 (Operand.tmp 5) 0, 0, _, _, some (5, true)⟩) (v := undef) rfl (Or.inr ⟨by rfl, rfl⟩) hHeld ?_
 refine tkS (i := 7) (oi := ⟨some 36, Op.load 3 (Operand.tmp 35), 3, _, _, some (5, true)⟩) (v := undef) rfl (Or.inr ⟨by rfl, rfl⟩) hHeld ?_
 refine tkS (i := 8) (oi := ⟨some 37, Op.move (Operand.tmp 0), 56, _, _, some (5, true)⟩) (v := undef) rfl (Or.inr ⟨by rfl, rfl⟩) hHeld ?_
 refine tkS (i := 9) (oi := ⟨some 38, Op.nilCheck (Operand.tmp 37), 0, _, _, some (5, true)⟩) (v := undef) rfl (Or.inr ⟨by rfl, rfl⟩) hHeld ?_
 refine tkS (i := 10) (oi := ⟨some 39, Op.fieldAddr 81 (Operand.tmp 38) 2, 0, _, _, some (5, true)⟩) (v := undef) rfl (Or.inr ⟨by rfl, rfl⟩) hHeld ?_
 refine tkS (i := 11) (oi := ⟨some 40, Op.load 3 (Operand.tmp 39), 3, _, _, some (5, true)⟩) (v := undef) rfl (Or.inr ⟨by rfl, rfl⟩) hHeld ?_
 refine tkS (i := 12) (oi := ⟨some 41, Op.binOp BinOp.neq 3 (Operand.tmp 36) (Operand.tmp 40) 3, 4, _, _, some (5, true)⟩) (v := undef) rfl (Or.inr ⟨by rfl, rfl⟩) hHeld ?_
 refine tkS (i := 13) (oi := ⟨some 42, Op.pick (Operand.tmp 34) (Operand.tmp 41) (Operand.const (Value.bool false)), 4, _, _, none⟩) (v := .bool false) rfl (Or.inl ⟨by rfl, fun w hS => by go_simp⟩) hHeld ?_
 refine wpAnyH_done (by kernel_rfl) ?_ _
 refine hK10 _ _ ?_
 refine wp_cond_false rfl ?_
 refine wp_skip ?_
 refine hK9 _ _ ?_
 have hlk0 : lk D.fs (nmS 0) = none := HX.out.ji.hi 0 (by have := hpr.out; omega) (by omega)
 obtain ⟨i, hfd, _⟩ := fnd_absent hlk0
 have hcnt : D.fs.length ≤ 0 := HX.out.ji.count (m := 0) (by rw [hpr.out]; rfl)
 obtain ⟨n1, n2⟩ := HX.out.ji.new (sure := sure) (m := 0) (i := i) (p := l) HX.out.su.1 (by rw [hpr.out]; rfl) (by omega) (HX.out.ji.none_safe hpr.out) hfd (by omega) HPo.out HBy.out
 have hAp : ∀ (wx : World) (v : Value), Blk wx d 53 #[ptr p] → DskAt wx p vf cs D → RowAt wx v (fr l) → (∀ k, v.ownBlock = some k → k ≠ p) → Calls Tryd.prog 35 #[ptr d, .string (nmS 0), v] wx fun e w' => e = .returned (.int .i64 (pw D)) ∧ ∃ vf' cs', DskAt w' p vf' cs' (D.appNew i (nmS 0) (fr l)) ∧ Grown wx w' (DskS p vf cs) ∧ ∀ k, DskS p vf' cs' k → DskS p vf cs k ∨ wx.heap.size ≤ k := fun wx v h1 h2 h3 h4 => by
  refine (app_new d p i (nmS 0) v vf (fr l) cs D wx h1 h2 HX.out.out (nm_rgt (by omega)) hfd (by rw [h2.fcs.len]; have := hcnt; omega) ⟨by rw [HX.out.ji.ok.used]; exact usd_nonneg _, by have := HX.out.ji.room; omega, by have := HX.out.ji.room; omega, by rw [HX.out.ji.ok.used, fr_len]; have := HX.out.ji.room; have := HX.out.ji.ok.big; have := HPo.out.2; omega⟩ ⟨HX.out.ji.ok.acts, by have := HA.out; omega⟩ ⟨by have := HX.out.ji.ok.fuse; omega, HX.out.ji.ok.fuse.2⟩ h3 h4).mono ?_
  rintro e w' ⟨rfl, vf', cs', h5, h6, h7⟩
  exact ⟨rfl, vf', cs', h5, h6.mono fun k _ e => .inl e, h7⟩
 exact japp_tail (k := 0) (a := 0) (D0 := D) (D := D) (DA := D.appNew i (nmS 0) (fr l)) (V' := V.new 0 l) (HT.out.below B4.out HZ.out) (Grown.below B4.out) J4.out (HP.out.grown (Grown.below (S := fun _ => False) B4.out) fun _ _ h => h) HDk.out (HD.out.below B4.out) HN.out HNl.out Hd.out Q4.out hqw.out (HR.out.below B4.out) (by omega) (by omega) HPo.out (by have := HX.out.ji.few; omega) hAp (by show D.acts ≤ D.acts + 1 ∧ D.acts + 1 ≤ D.acts + 300; omega) ⟨rfl, rfl, by show 16 + (l.length : Int) = 0 + 16 + (l.length : Int); omega, rfl⟩ (fun hfu => ⟨n1, n2, (fun h => by cases h), (fun _ => by show (0 : Int) ≤ ((0 : Nat) : Int); omega), by rw [← HX.out.out]; exact (act_on hfu).1⟩) (n1.cr n2)
set_option maxRecDepth 8000 in
set_option maxHeartbeats 2000000 in
theorem japp_same (g d p : Nat) (v : Value) (l : List Int) (D : DV) (V : JV) (la : Bool) (sure : Nat) (N : Nat → Prop) (w : World) (hT : Tab w) (hDN : JDN w g d p D V la false N) (hNl : ∀ k, N k → k < w.heap.size) (hd : ¬ N d) (hX : JX D V la sure) (hA : D.acts ≤ 4611686018427380000) (hR : RowAt w v l) (hRn : l ≠ [] → ∀ k, v.ownBlock = some k → ¬ N k) (hBy : Byts l) (m : Nat) (hPo : PayOk l) (hpr0 : V.pr = (m : Int)) (hc : ¬ (0 < V.sz ∧ 65536 < V.sz + (16 + (l.length : Int)))) : Calls Tryd.prog 20 #[ptr g, v] w (JAppPost D V la l sure g d p N w) := by
 obtain ⟨hDk, vf, cs, vp, hD, hJ, hP, hN⟩ := hDN
 obtain ⟨ba, bc, rfl⟩ := row_form hR
 have HT := Keep.mk hT
 have HDk := Keep.mk hDk
 have HD := Keep.mk hD
 have HJ := Keep.mk hJ
 have HP := Keep.mk hP
 have HN := Keep.mk hN
 have HNl := Keep.mk hNl
 have Hd := Keep.mk hd
 have HX := Keep.mk hX
 have HA := Keep.mk hA
 have HR := Keep.mk hR
 have HRn := Keep.mk hRn
 have HBy := Keep.mk hBy
 have HZ : Keep (0 < w.heap.size) := ⟨Nat.lt_of_le_of_lt (Nat.zero_le _) hDk.lt⟩
 obtain ⟨hm256, f, s, hf, hsz, -⟩ := hX.ji.last hpr0
 obtain ⟨i, hfi, hfn, hfd⟩ := fnd_is hX.ji.ok.srt hf
 have hfz := hX.ji.siz f (List.mem_of_getElem? hfi)
 have HPo := Keep.mk hPo
 have hpr := Keep.mk hpr0
 have Hm := Keep.mk hm256
 have HFi := Keep.mk hfi
 have HFn := Keep.mk hfn
 have HFd := Keep.mk hfd
 have HFz : Keep (V.sz = (f.bs.length : Int) ∧ f.bs.length ≤ 1114128) := ⟨hsz, hfz⟩
 have Hc := Keep.mk hc
 clear hPo hpr0 hm256 hf hsz hfi hfn hfd hfz hc
 clear hT hDk hD hJ hP hN hNl hd hX hA hR hRn hBy
 go_enter Tryd.func20, Tryd.ntmps20
 have c5 := HJ.out.c 5 (by rfl : (jA d vp V.pr V.sz la false)[5]? = some (.bool false))
 have hl0 : ¬ (l.length : Int) = 0 := by have := HPo.out.1; omega
 have hl1 : ¬ (1048576 : Int) < (l.length : Int) := by have := HPo.out.2; omega
 have hln : ¬ l.length = 0 := by have := HPo.out.1; omega
 have hwl : IntKind.i64.wrap (16 + (l.length : Int)) = 16 + (l.length : Int) := by rw [IntKind.wrap_i64]; have := HPo.out.2; omega
 refine wp_seq_k fun K1 hK1 => rgn ?_
 refine VlS (.int .i64 0) ?_
 refine WL.nil (hK1 _ _ ?_)
 refine wp_seq_k fun K2 hK2 => ?_
 refine wp_block ?_
 refine wp_seq_k fun K3 hK3 => rgn ?_
 refine VlS (.pointer (some ⟨g, 0, none⟩)) ?_
 refine VlS (.pointer (some ⟨g, 0, none⟩)) ?_
 refine VlS (.pointer (some ⟨g, 5, none⟩)) ?_
 refine VlS (.bool false) ?_
 refine VlS (.bool false) ?_
 refine WL.nil (hK3 _ _ ?_)
 refine wp_cond_false rfl ?_
 refine wp_seq_k fun K4 hK4 => rgn ?_
 refine VlS (.slice ba l.length bc) ?_
 refine VlS (.int .i64 (l.length : Int)) ?_
 refine VlS (.bool false) ?_
 refine VlS (.bool false) ?_
 refine WL.nil (hK4 _ _ ?_)
 refine wp_cond_false rfl ?_
 refine wp_seq_k fun K5 hK5 => rgn ?_
 refine VlS (.slice ba l.length bc) ?_
 refine VlS (.int .i64 (l.length : Int)) ?_
 refine VlS (.bool false) ?_
 refine VlS (.bool false) ?_
 refine WL.nil (hK5 _ _ ?_)
 refine wp_cond_false rfl ?_
 refine wp_skip ?_
 refine hK2 _ _ ?_
 refine wp_seq_k fun K6 hK6 => rgn ?_
 refine VlS (.pointer (some ⟨g, 0, none⟩)) ?_
 refine VlS (.slice ba l.length bc) ?_
 refine VlS (.int .i64 (l.length : Int)) ?_
 refine VlS (.int .i64 (16 + (l.length : Int))) ?_
 clear c5 hl0 hl1 hln hwl
 have hnx := next_any g d m vp V.sz (16 + (l.length : Int)) la false w (by rw [← hpr.out]; exact HJ.out) ⟨by have := Hm.out; omega, by have := HFz.out; omega, by have := HFz.out; omega, by omega, by have := HPo.out.2; omega⟩
 rw [if_neg Hc.out] at hnx
 refine WL.callF (by kernel_rfl) 33 _ _ rfl Tryd.in33 #[ptr g, .int .i64 (16 + (l.length : Int))] (by simp [Act.eval]) ?_
 refine (hnx).mono ?_
 rintro e w1 ⟨rfl, hb1⟩
 refine ⟨_, rfl, ?_⟩
 have B1 := Keep.mk hb1
 clear hb1 hnx
 obtain ⟨z, hz⟩ : ∃ z : Int, Keep (z = (m : Int)) := ⟨_, ⟨rfl⟩⟩
 rw [← hz.out]
 simp only [Act.put, pqA, pqB, pqC]
 refine WL.new (by kernel_rfl) 88 rfl _ Tryd.newPl ?_
 have HQ0 := Keep.mk (Blk.new w1 88 #[.int .i64 0, .int .i64 0])
 have hbx := below_new w1 (.cells #[.int .i64 0, .int .i64 0] 88)
 have B2 : Keep (Below w.heap.size w (w1.alloc (.cells #[.int .i64 0, .int .i64 0] 88))) := ⟨B1.out.trans (hbx.mono B1.out.size)⟩
 clear hbx
 change WL _ _ _ _ _ (w1.alloc (.cells #[.int .i64 0, .int .i64 0] 88))
 generalize w1.alloc (.cells #[.int .i64 0, .int .i64 0] 88) = w2 at *
 obtain ⟨q, hq⟩ : ∃ p, Keep (p = w1.heap.size) := ⟨_, ⟨rfl⟩⟩
 rw [← hq.out] at HQ0 ⊢
 have hqw : Keep (w.heap.size ≤ q) := ⟨by rw [hq.out]; exact B1.out.size⟩
 simp only [Act.put, pqA, pqB, pqC]
 refine WL.storeR (by kernel_rfl) 88 (.tmp 5) (.tmp 25) rfl q #[.int .i64 z, .int .i64 V.sz] rfl rfl 88 #[.int .i64 0, .int .i64 0] HQ0.out (by kernel_rfl) rfl (by kernel_rfl) ?_
 have HQ := Keep.mk (HQ0.out.setRow #[.int .i64 z, .int .i64 V.sz])
 have B3 : Keep (Below w.heap.size w (w2.setRow q #[.int .i64 z, .int .i64 V.sz])) := ⟨below_setRow B2.out hqw.out _⟩
 clear HQ0 B1 B2 hq
 generalize w2.setRow q #[.int .i64 z, .int .i64 V.sz] = w3 at *
 have q0 := HQ.out.c 0 (by rfl : (#[.int .i64 z, .int .i64 V.sz] : Array Value)[0]? = some (.int .i64 z))
 have J3 := Keep.mk (HJ.out.below B3.out HJ.out.lt)
 have hm256 : ¬ z = 256 := by have := Hm.out; have := hz.out; omega
 have hmn : ¬ z = -1 := by have := hz.out; omega
 simp only [Act.put]
 refine WL.nil (hK6 _ _ ?_)
 refine wp_seq_k fun K7 hK7 => ?_
 refine wp_seq_k fun K8 hK8 => rgn ?_
 refine VlS (.pointer (some ⟨q, 0, none⟩)) ?_
 refine VlS (.int .i64 z) ?_
 refine VlS (.bool false) ?_
 refine WL.nil (hK8 _ _ ?_)
 refine wp_cond_false rfl ?_
 refine wp_skip ?_
 refine hK7 _ _ ?_
 refine wp_seq_k fun K9 hK9 => ?_
 refine wp_seq_k fun K10 hK10 => ?_
 clear q0
 have J4 : Keep (Blk w3.drew g 81 (jA d vp V.pr V.sz la false)) := ⟨J3.out.drew⟩
 have Q4 : Keep (Blk w3.drew q 88 #[.int .i64 z, .int .i64 V.sz]) := ⟨HQ.out.drew⟩
 have B4 : Keep (Below w.heap.size w w3.drew) := ⟨B3.out.drew⟩
 clear J3 HQ B3
 refine wp_region_held_drew (S := fun wx => wx.cell? ⟨g, 2, none⟩ = some (.int .i64 z) ∧ wx.cell? ⟨q, 0, none⟩ = some (.int .i64 z)) (by kernel_rfl) ⟨by rw [hz.out, ← hpr.out]; exact J4.out.c 2 rfl, Q4.out.c 0 rfl⟩ (fun hHeld => ?_)
 generalize w3.drew = w4 at *
 refine tkS (i := 0) (oi := ⟨some 29, Op.move (Operand.tmp 0), 56, _, _, none⟩) (v := .pointer (some ⟨g, 0, none⟩)) rfl (Or.inl ⟨by rfl, fun w hS => by obtain ⟨hS1, hS2⟩ := hS; go_simp⟩) hHeld ?_
 refine tkS (i := 1) (oi := ⟨some 30, Op.nilCheck (Operand.tmp 29), 0, _, _, none⟩) (v := .pointer (some ⟨g, 0, none⟩)) rfl (Or.inl ⟨by rfl, fun w hS => by obtain ⟨hS1, hS2⟩ := hS; go_simp⟩) hHeld ?_
 refine tkS (i := 2) (oi := ⟨some 31, Op.fieldAddr 81 (Operand.tmp 30) 2, 0, _, _, none⟩) (v := .pointer (some ⟨g, 2, none⟩)) rfl (Or.inl ⟨by rfl, fun w hS => by obtain ⟨hS1, hS2⟩ := hS; go_simp⟩) hHeld ?_
 refine tkS (i := 3) (oi := ⟨some 32, Op.load 3 (Operand.tmp 31), 3, _, _, none⟩) (v := .int .i64 z) rfl (Or.inl ⟨by rfl, fun w hS => by obtain ⟨hS1, hS2⟩ := hS; go_simp⟩) hHeld ?_
 refine tkS (i := 4) (oi := ⟨some 33, Op.binOp BinOp.neq 3 (Operand.tmp 32) (Operand.const (Value.int IntKind.i64 (-1))) 3, 4, _, _, none⟩) (v := .bool true) rfl (Or.inl ⟨by rfl, fun w hS => by obtain ⟨hS1, hS2⟩ := hS; go_simp⟩) hHeld ?_
 refine tkS (i := 5) (oi := ⟨some 34, Op.move (Operand.tmp 33), 4, _, _, none⟩) (v := .bool true) rfl (Or.inl ⟨by rfl, fun w hS => by obtain ⟨hS1, hS2⟩ := hS; go_simp⟩) hHeld ?_
 refine tkS (i := 6) (oi := ⟨some 35, Op.fieldAddr 88 (Operand.tmp 5) 0, 0, _, _, some (5, true)⟩) (v := .pointer (some ⟨q, 0, none⟩)) rfl (Or.inl ⟨by rfl, fun w hS => by obtain ⟨hS1, hS2⟩ := hS; go_simp⟩) hHeld ?_
 refine tkS (i := 7) (oi := ⟨some 36, Op.load 3 (Operand.tmp 35), 3, _, _, some (5, true)⟩) (v := .int .i64 z) rfl (Or.inl ⟨by rfl, fun w hS => by obtain ⟨hS1, hS2⟩ := hS; go_simp⟩) hHeld ?_
 refine tkS (i := 8) (oi := ⟨some 37, Op.move (Operand.tmp 0), 56, _, _, some (5, true)⟩) (v := .pointer (some ⟨g, 0, none⟩)) rfl (Or.inl ⟨by rfl, fun w hS => by obtain ⟨hS1, hS2⟩ := hS; go_simp⟩) hHeld ?_
 refine tkS (i := 9) (oi := ⟨some 38, Op.nilCheck (Operand.tmp 37), 0, _, _, some (5, true)⟩) (v := .pointer (some ⟨g, 0, none⟩)) rfl (Or.inl ⟨by rfl, fun w hS => by obtain ⟨hS1, hS2⟩ := hS; go_simp⟩) hHeld ?_
 refine tkS (i := 10) (oi := ⟨some 39, Op.fieldAddr 81 (Operand.tmp 38) 2, 0, _, _, some (5, true)⟩) (v := .pointer (some ⟨g, 2, none⟩)) rfl (Or.inl ⟨by rfl, fun w hS => by obtain ⟨hS1, hS2⟩ := hS; go_simp⟩) hHeld ?_
 refine tkS (i := 11) (oi := ⟨some 40, Op.load 3 (Operand.tmp 39), 3, _, _, some (5, true)⟩) (v := .int .i64 z) rfl (Or.inl ⟨by rfl, fun w hS => by obtain ⟨hS1, hS2⟩ := hS; go_simp⟩) hHeld ?_
 refine tkS (i := 12) (oi := ⟨some 41, Op.binOp BinOp.neq 3 (Operand.tmp 36) (Operand.tmp 40) 3, 4, _, _, some (5, true)⟩) (v := .bool false) rfl (Or.inl ⟨by rfl, fun w hS => by obtain ⟨hS1, hS2⟩ := hS; go_simp⟩) hHeld ?_
 refine tkS (i := 13) (oi := ⟨some 42, Op.pick (Operand.tmp 34) (Operand.tmp 41) (Operand.const (Value.bool false)), 4, _, _, none⟩) (v := .bool false) rfl (Or.inl ⟨by rfl, fun w hS => by obtain ⟨hS1, hS2⟩ := hS; go_simp⟩) hHeld ?_
 refine wpAnyH_done (by kernel_rfl) ?_ _
 refine hK10 _ _ ?_
 refine wp_cond_false rfl ?_
 refine wp_skip ?_
 refine hK9 _ _ ?_
 rw [hz.out] at Q4
 have hfz := HFz.out
 have hc := Hc.out
 have hpo := HPo.out
 obtain ⟨n1, n2⟩ := HX.out.ji.app (i := i) (f := f) (p := l) HX.out.su hpr.out HFi.out HFn.out HPo.out HBy.out (by have h1 := hfz.1; have h2 := hfz.2; have h3 := hpo.2; omega)
 have hAp : ∀ (wx : World) (v : Value), Blk wx d 53 #[ptr p] → DskAt wx p vf cs D → RowAt wx v (fr l) → (∀ k, v.ownBlock = some k → k ≠ p) → Calls Tryd.prog 35 #[ptr d, .string (nmS m), v] wx fun e w' => e = .returned (.int .i64 (pw D)) ∧ ∃ vf' cs', DskAt w' p vf' cs' (D.appIs i f (fr l)) ∧ Grown wx w' (DskS p vf cs) ∧ ∀ k, DskS p vf' cs' k → DskS p vf cs k ∨ wx.heap.size ≤ k := fun wx v h1 h2 h3 h4 =>
  app_is d p i (nmS m) v vf (fr l) cs D f wx h1 h2 HX.out.out (nm_rgt (by have := Hm.out; omega)) HFd.out HFi.out (HX.out.ji.ok.at HFi.out).2.2 (by rw [h2.fcs.len]; exact HX.out.ji.ok.len) ⟨(HX.out.ji.ok.at HFi.out).1, by have := HX.out.ji.room; omega, by have := HX.out.ji.room; omega, by rw [HX.out.ji.ok.used, fr_len]; have := HX.out.ji.room; have := HX.out.ji.ok.big; have := HPo.out.2; omega⟩ ⟨HX.out.ji.ok.acts, by have := HA.out; omega⟩ ⟨by have := HX.out.ji.ok.fuse; omega, HX.out.ji.ok.fuse.2⟩ h3
 exact japp_tail (k := m) (a := V.sz) (D0 := D) (D := D) (DA := D.appIs i f (fr l)) (V' := V.app m l) (HT.out.below B4.out HZ.out) (Grown.below B4.out) J4.out (HP.out.grown (Grown.below (S := fun _ => False) B4.out) fun _ _ h => h) HDk.out (HD.out.below B4.out) HN.out HNl.out Hd.out Q4.out hqw.out (HR.out.below B4.out) Hm.out (by omega) HPo.out (by have := HX.out.ji.few; omega) hAp (by show D.acts ≤ D.acts + 1 ∧ D.acts + 1 ≤ D.acts + 300; omega) ⟨rfl, rfl, rfl, rfl⟩ (fun hfu => ⟨n1, n2, (fun h => by cases h), (fun _ => by show (0 : Int) ≤ (m : Int); omega), by rw [← HX.out.out]; exact (act_on hfu).1⟩) (n1.cr n2)
set_option maxRecDepth 8000 in
set_option maxHeartbeats 4000000 in
theorem japp_next (g d p : Nat) (v : Value) (l : List Int) (D : DV) (V : JV) (la : Bool) (sure : Nat) (N : Nat → Prop) (w : World) (hT : Tab w) (hDN : JDN w g d p D V la false N) (hNl : ∀ k, N k → k < w.heap.size) (hd : ¬ N d) (hX : JX D V la sure) (hA : D.acts ≤ 4611686018427380000) (hR : RowAt w v l) (hRn : l ≠ [] → ∀ k, v.ownBlock = some k → ¬ N k) (hBy : Byts l) (m : Nat) (h0 : ¬ N 0) (hPo : PayOk l) (hpr0 : V.pr = (m : Int)) (hc : 0 < V.sz ∧ 65536 < V.sz + (16 + (l.length : Int))) : Calls Tryd.prog 20 #[ptr g, v] w (JAppPost D V la l sure g d p N w) := by
 obtain ⟨hDk, vf, cs, vp, hD, hJ, hP, hN⟩ := hDN
 obtain ⟨ba, bc, rfl⟩ := row_form hR
 have HT := Keep.mk hT
 have HDk := Keep.mk hDk
 have HD := Keep.mk hD
 have HJ := Keep.mk hJ
 have HP := Keep.mk hP
 have HN := Keep.mk hN
 have HNl := Keep.mk hNl
 have Hd := Keep.mk hd
 have HX := Keep.mk hX
 have HA := Keep.mk hA
 have HR := Keep.mk hR
 have HRn := Keep.mk hRn
 have HBy := Keep.mk hBy
 have HZ : Keep (0 < w.heap.size) := ⟨Nat.lt_of_le_of_lt (Nat.zero_le _) hDk.lt⟩
 obtain ⟨hm256, f, s, hf, hsz, -⟩ := hX.ji.last hpr0
 obtain ⟨i, hfi, hfn, hfd⟩ := fnd_is hX.ji.ok.srt hf
 have hfz := hX.ji.siz f (List.mem_of_getElem? hfi)
 have HPo := Keep.mk hPo
 have hpr := Keep.mk hpr0
 have Hm := Keep.mk hm256
 have HFi := Keep.mk hfi
 have HFn := Keep.mk hfn
 have HFd := Keep.mk hfd
 have HFz : Keep (V.sz = (f.bs.length : Int) ∧ f.bs.length ≤ 1114128) := ⟨hsz, hfz⟩
 have Hc := Keep.mk hc
 clear hPo hpr0 hm256 hf hsz hfi hfn hfd hfz hc
 have HRz := Keep.mk h0
 clear h0
 clear hT hDk hD hJ hP hN hNl hd hX hA hR hRn hBy
 go_enter Tryd.func20, Tryd.ntmps20
 have c5 := HJ.out.c 5 (by rfl : (jA d vp V.pr V.sz la false)[5]? = some (.bool false))
 have hl0 : ¬ (l.length : Int) = 0 := by have := HPo.out.1; omega
 have hl1 : ¬ (1048576 : Int) < (l.length : Int) := by have := HPo.out.2; omega
 have hln : ¬ l.length = 0 := by have := HPo.out.1; omega
 have hwl : IntKind.i64.wrap (16 + (l.length : Int)) = 16 + (l.length : Int) := by rw [IntKind.wrap_i64]; have := HPo.out.2; omega
 refine wp_seq_k fun K1 hK1 => rgn ?_
 refine VlS (.int .i64 0) ?_
 refine WL.nil (hK1 _ _ ?_)
 refine wp_seq_k fun K2 hK2 => ?_
 refine wp_block ?_
 refine wp_seq_k fun K3 hK3 => rgn ?_
 refine VlS (.pointer (some ⟨g, 0, none⟩)) ?_
 refine VlS (.pointer (some ⟨g, 0, none⟩)) ?_
 refine VlS (.pointer (some ⟨g, 5, none⟩)) ?_
 refine VlS (.bool false) ?_
 refine VlS (.bool false) ?_
 refine WL.nil (hK3 _ _ ?_)
 refine wp_cond_false rfl ?_
 refine wp_seq_k fun K4 hK4 => rgn ?_
 refine VlS (.slice ba l.length bc) ?_
 refine VlS (.int .i64 (l.length : Int)) ?_
 refine VlS (.bool false) ?_
 refine VlS (.bool false) ?_
 refine WL.nil (hK4 _ _ ?_)
 refine wp_cond_false rfl ?_
 refine wp_seq_k fun K5 hK5 => rgn ?_
 refine VlS (.slice ba l.length bc) ?_
 refine VlS (.int .i64 (l.length : Int)) ?_
 refine VlS (.bool false) ?_
 refine VlS (.bool false) ?_
 refine WL.nil (hK5 _ _ ?_)
 refine wp_cond_false rfl ?_
 refine wp_skip ?_
 refine hK2 _ _ ?_
 refine wp_seq_k fun K6 hK6 => rgn ?_
 refine VlS (.pointer (some ⟨g, 0, none⟩)) ?_
 refine VlS (.slice ba l.length bc) ?_
 refine VlS (.int .i64 (l.length : Int)) ?_
 refine VlS (.int .i64 (16 + (l.length : Int))) ?_
 clear c5 hl0 hl1 hln hwl
 have hnx := next_any g d m vp V.sz (16 + (l.length : Int)) la false w (by rw [← hpr.out]; exact HJ.out) ⟨by have := Hm.out; omega, by have := HFz.out; omega, by have := HFz.out; omega, by omega, by have := HPo.out.2; omega⟩
 rw [if_pos Hc.out] at hnx
 refine WL.callF (by kernel_rfl) 33 _ _ rfl Tryd.in33 #[ptr g, .int .i64 (16 + (l.length : Int))] (by simp [Act.eval]) ?_
 refine (hnx).mono ?_
 rintro e w1 ⟨rfl, hb1⟩
 refine ⟨_, rfl, ?_⟩
 have B1 := Keep.mk hb1
 clear hb1 hnx
 obtain ⟨k, hk⟩ : ∃ k : Nat, Keep ((m : Int) + 1 = (k : Int) ∧ k = m + 1) := ⟨m + 1, ⟨by omega, rfl⟩⟩
 rw [hk.out.1]
 obtain ⟨kz, hkz⟩ : ∃ z : Int, Keep (z = (k : Int)) := ⟨_, ⟨rfl⟩⟩
 rw [← hkz.out]
 obtain ⟨z, hz⟩ : ∃ z : Int, Keep (z = (m : Int)) := ⟨_, ⟨rfl⟩⟩
 simp only [Act.put, pqA, pqB, pqC]
 refine WL.new (by kernel_rfl) 88 rfl _ Tryd.newPl ?_
 have HQ0 := Keep.mk (Blk.new w1 88 #[.int .i64 0, .int .i64 0])
 have hbx := below_new w1 (.cells #[.int .i64 0, .int .i64 0] 88)
 have B2 : Keep (Below w.heap.size w (w1.alloc (.cells #[.int .i64 0, .int .i64 0] 88))) := ⟨B1.out.trans (hbx.mono B1.out.size)⟩
 clear hbx
 change WL _ _ _ _ _ (w1.alloc (.cells #[.int .i64 0, .int .i64 0] 88))
 generalize w1.alloc (.cells #[.int .i64 0, .int .i64 0] 88) = w2 at *
 obtain ⟨q, hq⟩ : ∃ p, Keep (p = w1.heap.size) := ⟨_, ⟨rfl⟩⟩
 rw [← hq.out] at HQ0 ⊢
 have hqw : Keep (w.heap.size ≤ q) := ⟨by rw [hq.out]; exact B1.out.size⟩
 simp only [Act.put, pqA, pqB, pqC]
 refine WL.storeR (by kernel_rfl) 88 (.tmp 5) (.tmp 25) rfl q #[.int .i64 kz, .int .i64 0] rfl rfl 88 #[.int .i64 0, .int .i64 0] HQ0.out (by kernel_rfl) rfl (by kernel_rfl) ?_
 have HQ := Keep.mk (HQ0.out.setRow #[.int .i64 kz, .int .i64 0])
 have B3 : Keep (Below w.heap.size w (w2.setRow q #[.int .i64 kz, .int .i64 0])) := ⟨below_setRow B2.out hqw.out _⟩
 clear HQ0 B1 B2 hq
 generalize w2.setRow q #[.int .i64 kz, .int .i64 0] = w3 at *
 have q0 := HQ.out.c 0 (by rfl : (#[.int .i64 kz, .int .i64 0] : Array Value)[0]? = some (.int .i64 kz))
 have J3 := Keep.mk (HJ.out.below B3.out HJ.out.lt)
 have hmn : ¬ z = -1 := by have := hz.out; omega
 simp only [Act.put]
 refine WL.nil (hK6 _ _ ?_)
 refine wp_seq_k fun K7 hK7 => ?_
 refine wp_seq_k fun K8 hK8 => rgn ?_
 refine VlS (.pointer (some ⟨q, 0, none⟩)) ?_
 refine VlS (.int .i64 kz) ?_
 by_cases h8_2 : kz = 256
 ·skip
  refine VlS (.bool true) ?_
  refine WL.nil (hK8 _ _ ?_)
  refine wp_cond_true rfl ?_
  refine wp_seq_k fun K9 hK9 => rgn ?_
  refine VlS (.int .i64 8) ?_
  refine WL.nil (hK9 _ _ ?_)
  refine wp_ret ?_
  go_ret
  have GW : Grown w w3 N := Grown.below B3.out
  exact ⟨8, D, V, la, false, rfl, ⟨HDk.out.below B3.out HDk.out.lt, vf, cs, vp, HD.out.below B3.out, J3.out, HP.out.grown (Grown.below (S := fun _ => False) B3.out) fun _ _ h => h, fun k hk => ⟨.inl (HN.out k hk), Nat.lt_of_lt_of_le (HNl.out k (HN.out k hk)) B3.out.size⟩⟩, GW, by omega, .inr (.inr ⟨.inr (.inr rfl), rfl, rfl, HX.out⟩)⟩
 ·have hkm : ¬ kz = z := by have := hk.out; have := hkz.out; have := hz.out; omega
  have hk256 : Keep (k < 256) := ⟨by have := hk.out; have := hkz.out; have := Hm.out; omega⟩
  refine VlS (.bool false) ?_
  refine WL.nil (hK8 _ _ ?_)
  refine wp_cond_false rfl ?_
  refine wp_skip ?_
  refine hK7 _ _ ?_
  refine wp_seq_k fun K10 hK10 => ?_
  refine wp_seq_k fun K11 hK11 => ?_
  clear q0
  have J4 : Keep (Blk w3.drew g 81 (jA d vp V.pr V.sz la false)) := ⟨J3.out.drew⟩
  have Q4 : Keep (Blk w3.drew q 88 #[.int .i64 kz, .int .i64 0]) := ⟨HQ.out.drew⟩
  have B4 : Keep (Below w.heap.size w w3.drew) := ⟨B3.out.drew⟩
  clear J3 HQ B3
  refine wp_region_held_drew (S := fun wx => wx.cell? ⟨g, 2, none⟩ = some (.int .i64 z) ∧ wx.cell? ⟨q, 0, none⟩ = some (.int .i64 kz)) (by kernel_rfl) ⟨by rw [hz.out, ← hpr.out]; exact J4.out.c 2 rfl, Q4.out.c 0 rfl⟩ (fun hHeld => ?_)
  generalize w3.drew = w4 at *
  refine tkS (i := 0) (oi := ⟨some 29, Op.move (Operand.tmp 0), 56, _, _, none⟩) (v := .pointer (some ⟨g, 0, none⟩)) rfl (Or.inl ⟨by rfl, fun w hS => by obtain ⟨hS1, hS2⟩ := hS; go_simp⟩) hHeld ?_
  refine tkS (i := 1) (oi := ⟨some 30, Op.nilCheck (Operand.tmp 29), 0, _, _, none⟩) (v := .pointer (some ⟨g, 0, none⟩)) rfl (Or.inl ⟨by rfl, fun w hS => by obtain ⟨hS1, hS2⟩ := hS; go_simp⟩) hHeld ?_
  refine tkS (i := 2) (oi := ⟨some 31, Op.fieldAddr 81 (Operand.tmp 30) 2, 0, _, _, none⟩) (v := .pointer (some ⟨g, 2, none⟩)) rfl (Or.inl ⟨by rfl, fun w hS => by obtain ⟨hS1, hS2⟩ := hS; go_simp⟩) hHeld ?_
  refine tkS (i := 3) (oi := ⟨some 32, Op.load 3 (Operand.tmp 31), 3, _, _, none⟩) (v := .int .i64 z) rfl (Or.inl ⟨by rfl, fun w hS => by obtain ⟨hS1, hS2⟩ := hS; go_simp⟩) hHeld ?_
  refine tkS (i := 4) (oi := ⟨some 33, Op.binOp BinOp.neq 3 (Operand.tmp 32) (Operand.const (Value.int IntKind.i64 (-1))) 3, 4, _, _, none⟩) (v := .bool true) rfl (Or.inl ⟨by rfl, fun w hS => by obtain ⟨hS1, hS2⟩ := hS; go_simp⟩) hHeld ?_
  refine tkS (i := 5) (oi := ⟨some 34, Op.move (Operand.tmp 33), 4, _, _, none⟩) (v := .bool true) rfl (Or.inl ⟨by rfl, fun w hS => by obtain ⟨hS1, hS2⟩ := hS; go_simp⟩) hHeld ?_
  refine tkS (i := 6) (oi := ⟨some 35, Op.fieldAddr 88 (Operand.tmp 5) 0, 0, _, _, some (5, true)⟩) (v := .pointer (some ⟨q, 0, none⟩)) rfl (Or.inl ⟨by rfl, fun w hS => by obtain ⟨hS1, hS2⟩ := hS; go_simp⟩) hHeld ?_
  refine tkS (i := 7) (oi := ⟨some 36, Op.load 3 (Operand.tmp 35), 3, _, _, some (5, true)⟩) (v := .int .i64 kz) rfl (Or.inl ⟨by rfl, fun w hS => by obtain ⟨hS1, hS2⟩ := hS; go_simp⟩) hHeld ?_
  refine tkS (i := 8) (oi := ⟨some 37, Op.move (Operand.tmp 0), 56, _, _, some (5, true)⟩) (v := .pointer (some ⟨g, 0, none⟩)) rfl (Or.inl ⟨by rfl, fun w hS => by obtain ⟨hS1, hS2⟩ := hS; go_simp⟩) hHeld ?_
  refine tkS (i := 9) (oi := ⟨some 38, Op.nilCheck (Operand.tmp 37), 0, _, _, some (5, true)⟩) (v := .pointer (some ⟨g, 0, none⟩)) rfl (Or.inl ⟨by rfl, fun w hS => by obtain ⟨hS1, hS2⟩ := hS; go_simp⟩) hHeld ?_
  refine tkS (i := 10) (oi := ⟨some 39, Op.fieldAddr 81 (Operand.tmp 38) 2, 0, _, _, some (5, true)⟩) (v := .pointer (some ⟨g, 2, none⟩)) rfl (Or.inl ⟨by rfl, fun w hS => by obtain ⟨hS1, hS2⟩ := hS; go_simp⟩) hHeld ?_
  refine tkS (i := 11) (oi := ⟨some 40, Op.load 3 (Operand.tmp 39), 3, _, _, some (5, true)⟩) (v := .int .i64 z) rfl (Or.inl ⟨by rfl, fun w hS => by obtain ⟨hS1, hS2⟩ := hS; go_simp⟩) hHeld ?_
  refine tkS (i := 12) (oi := ⟨some 41, Op.binOp BinOp.neq 3 (Operand.tmp 36) (Operand.tmp 40) 3, 4, _, _, some (5, true)⟩) (v := .bool true) rfl (Or.inl ⟨by rfl, fun w hS => by obtain ⟨hS1, hS2⟩ := hS; go_simp⟩) hHeld ?_
  refine tkS (i := 13) (oi := ⟨some 42, Op.pick (Operand.tmp 34) (Operand.tmp 41) (Operand.const (Value.bool false)), 4, _, _, none⟩) (v := .bool true) rfl (Or.inl ⟨by rfl, fun w hS => by obtain ⟨hS1, hS2⟩ := hS; go_simp⟩) hHeld ?_
  refine wpAnyH_done (by kernel_rfl) ?_ _
  refine hK11 _ _ ?_
  refine wp_cond_true rfl ?_
  refine wp_seq_k fun K12 hK12 => ?_
  have D4 : Keep (Below w4.heap.size w4 w4.drew) := ⟨(Below.refl _ _).drew⟩
  have HSx : Keep (∀ wx de, Blk wx g 81 (jA d vp V.pr V.sz la de) → wx.cell? ⟨g, 0, none⟩ = some (ptr d) ∧ wx.cell? ⟨g, 2, none⟩ = some (.int .i64 (m : Int))) := ⟨fun wx de h => ⟨h.c 0 rfl, by rw [← hpr.out]; exact h.c 2 rfl⟩⟩
  have T4 : Keep (Tab w4) := ⟨HT.out.below B4.out HZ.out⟩
  have K4 : Keep (Blk w4 d 53 #[ptr p]) := ⟨HDk.out.below B4.out HDk.out.lt⟩
  have DD4 : Keep (DskAt w4 p vf cs D) := ⟨HD.out.below B4.out⟩
  have P4 : Keep (OwnP w4 vp V.pl) := ⟨HP.out.grown (Grown.below (S := fun _ => False) B4.out) fun _ _ h => h⟩
  refine wp_region_held_drew (S := fun wx => wx.cell? ⟨g, 0, none⟩ = some (ptr d) ∧ wx.cell? ⟨g, 2, none⟩ = some (.int .i64 (m : Int))) (by kernel_rfl) (HSx.out _ _ J4.out.drew) (fun hHeld => ?_)
  refine tkS (i := 0) (oi := ⟨some 43, Op.move (Operand.tmp 0), 56, _, _, none⟩) (v := .pointer (some ⟨g, 0, none⟩)) rfl (Or.inl ⟨by rfl, fun w hS => by obtain ⟨hS1, hS2⟩ := hS; go_simp⟩) hHeld ?_
  refine tkS (i := 1) (oi := ⟨some 44, Op.move (Operand.tmp 0), 56, _, _, none⟩) (v := .pointer (some ⟨g, 0, none⟩)) rfl (Or.inl ⟨by rfl, fun w hS => by obtain ⟨hS1, hS2⟩ := hS; go_simp⟩) hHeld ?_
  refine tkS (i := 2) (oi := ⟨some 45, Op.nilCheck (Operand.tmp 44), 0, _, _, none⟩) (v := .pointer (some ⟨g, 0, none⟩)) rfl (Or.inl ⟨by rfl, fun w hS => by obtain ⟨hS1, hS2⟩ := hS; go_simp⟩) hHeld ?_
  refine tkS (i := 3) (oi := ⟨some 46, Op.fieldAddr 81 (Operand.tmp 45) 0, 0, _, _, none⟩) (v := .pointer (some ⟨g, 0, none⟩)) rfl (Or.inl ⟨by rfl, fun w hS => by obtain ⟨hS1, hS2⟩ := hS; go_simp⟩) hHeld ?_
  refine tkS (i := 4) (oi := ⟨some 47, Op.load 26 (Operand.tmp 46), 26, _, _, none⟩) (v := .pointer (some ⟨d, 0, none⟩)) rfl (Or.inl ⟨by rfl, fun w hS => by obtain ⟨hS1, hS2⟩ := hS; go_simp⟩) hHeld ?_
  refine tkS (i := 5) (oi := ⟨some 48, Op.move (Operand.tmp 0), 56, _, _, none⟩) (v := .pointer (some ⟨g, 0, none⟩)) rfl (Or.inl ⟨by rfl, fun w hS => by obtain ⟨hS1, hS2⟩ := hS; go_simp⟩) hHeld ?_
  refine tkS (i := 6) (oi := ⟨some 49, Op.nilCheck (Operand.tmp 48), 0, _, _, none⟩) (v := .pointer (some ⟨g, 0, none⟩)) rfl (Or.inl ⟨by rfl, fun w hS => by obtain ⟨hS1, hS2⟩ := hS; go_simp⟩) hHeld ?_
  refine tkS (i := 7) (oi := ⟨some 50, Op.fieldAddr 81 (Operand.tmp 49) 2, 0, _, _, none⟩) (v := .pointer (some ⟨g, 2, none⟩)) rfl (Or.inl ⟨by rfl, fun w hS => by obtain ⟨hS1, hS2⟩ := hS; go_simp⟩) hHeld ?_
  refine tkS (i := 8) (oi := ⟨some 51, Op.load 3 (Operand.tmp 50), 3, _, _, none⟩) (v := .int .i64 (m : Int)) rfl (Or.inl ⟨by rfl, fun w hS => by obtain ⟨hS1, hS2⟩ := hS; go_simp⟩) hHeld ?_
  refine wpAnyH_ready (rs := [9]) (by kernel_rfl) (by simp) ?_
  refine AllReadyH.cons (o := ⟨some 52, Op.call { callee := Callee.value (Operand.func 31), args := #[Operand.tmp 51], argTypes := #[3] }, 9, _, _, none⟩) rfl (fun K hK => ?_) AllReadyH.nil
  rw [if_pos (by rfl)]
  refine wp_callF 31 _ _ rfl Tryd.in31 #[.int .i64 (m : Int)] (by simp [Act.eval]) (fun vz wz => vz = .string (nmS m) ∧ Below w4.heap.size w4 wz) ?_ ?_
  ·refine (name_any m (by have := Hm.out; omega) w4.drew (T4.out.below D4.out (Nat.lt_of_le_of_lt (Nat.zero_le _) J4.out.lt))).mono ?_
   rintro e wz ⟨rfl, h⟩
   exact ⟨_, rfl, rfl, D4.out.trans (h.mono D4.out.size)⟩
  rintro vz w5 ⟨rfl, h5⟩
  have B5 := Keep.mk h5
  clear h5
  obtain ⟨nn, hnn⟩ : ∃ s, Keep (s = nmS m) := ⟨_, ⟨rfl⟩⟩
  rw [← hnn.out]
  refine hK _ _ (HSx.out _ _ (J4.out.below B5.out J4.out.lt)) fun hH5 => ?_
  clear hK
  simp only [Act.put, pqA, pqB, pqC]
  refine wpAnyH_ready (rs := [10]) (by kernel_rfl) (by simp) ?_
  refine AllReadyH.cons (o := ⟨some 53, Op.call { callee := Callee.value (Operand.func 34), args := #[Operand.tmp 47, Operand.tmp 52], argTypes := #[26, 9] }, 31, _, _, none⟩) rfl (fun K hK => ?_) AllReadyH.nil
  rw [if_pos (by rfl)]
  refine wp_callF 34 _ _ rfl Tryd.in34 #[ptr d, .string nn] (by simp [Act.eval]) (fun vz wz => vz = .int .i64 (pw D) ∧ ∃ cs', DskAt wz p vf cs' (if D.fuse = 0 then D.act else D.act.sync i) ∧ (Grown w5 wz fun k => k = p ∨ vf.ownBlock = some k) ∧ ∀ k, DskS p vf cs' k → DskS p vf cs k) ?_ ?_
  ·refine (syn_is d p i nn vf cs D w5 (K4.out.below B5.out K4.out.lt) (DD4.out.below B5.out) HX.out.out (by rw [hnn.out]; exact HFd.out) (by rw [HD.out.fcs.len]; exact HX.out.ji.ok.len) ⟨HX.out.ji.ok.acts, by have := HA.out; omega⟩ ⟨by have := HX.out.ji.ok.fuse; omega, HX.out.ji.ok.fuse.2⟩).mono ?_
   rintro e wz ⟨rfl, cs1, h1, h2, h3⟩
   exact ⟨_, rfl, rfl, cs1, h1, h2, h3⟩
  rintro vz w7 ⟨rfl, cs7, h1, h2, h3⟩
  have D7 := Keep.mk h1
  have N7 := Keep.mk h3
  have hty : ∀ k, k = p ∨ vf.ownBlock = some k → DskS p vf cs k := fun k hk => hk.elim .inl fun e => .inr (.inl e)
  have hne : ∀ {k : Nat} {T : TypeId}, Typ w4 k T → T = 81 ∨ T = 88 → ¬ (k = p ∨ vf.ownBlock = some k) := fun hk hT e => by rcases DD4.out.sTyp (hty _ e) with h | h | h <;> (have := h.one hk; rcases hT with hT | hT <;> (rw [hT] at this; revert this; decide))
  have J7 : Keep (Blk w7 g 81 (jA d vp V.pr V.sz la false)) := ⟨h2.blk (J4.out.below B5.out J4.out.lt) (hne J4.out.typ (.inl rfl))⟩
  have Q7 : Keep (Blk w7 q 88 #[.int .i64 kz, .int .i64 0]) := ⟨h2.blk (Q4.out.below B5.out Q4.out.lt) (hne Q4.out.typ (.inr rfl))⟩
  have P7 : Keep (OwnP w7 vp V.pl) := ⟨(P4.out.grown (Grown.below (S := fun _ => False) B5.out) fun _ _ h => h).grown h2 fun k hk => hne (P4.out.typ hk) (.inr rfl)⟩
  have G7 : Keep (Grown w w7 N) := ⟨((Grown.below B4.out).trans (Grown.below B5.out)).next h2 fun k _ e => HN.out k (.inl (hty k e))⟩
  clear h1 h2 h3 hty hne
  obtain ⟨ee, hee⟩ : ∃ z, Keep (z = pw D) := ⟨_, ⟨rfl⟩⟩
  rw [← hee.out]
  refine hK _ _ (HSx.out _ _ J7.out) fun hH7 => ?_
  clear hK
  simp only [Act.put, pqA, pqB, pqC]
  refine wpAnyH_ready (rs := [11]) (by kernel_rfl) (by simp) ?_
  refine AllReadyH.cons (o := ⟨some 54, Op.call { callee := Callee.value (Operand.func 29), args := #[Operand.tmp 43, Operand.tmp 53], argTypes := #[56, 31] }, 31, _, _, none⟩) rfl (fun K hK => ?_) AllReadyH.nil
  rw [if_pos (by rfl)]
  refine wp_callF 29 _ _ rfl Tryd.in29 #[ptr g, .int .i64 ee] (by simp [Act.eval]) (fun vz wz => vz = .int .i64 ee ∧ (∃ de', Blk wz g 81 (jA d vp V.pr V.sz la de') ∧ (ee ≠ 7 → de' = false)) ∧ Grown w7 wz fun k => k = g) ?_ ?_
  ·refine (told_gen g d vp V.pr V.sz ee la false w7 J7.out).mono ?_
   rintro e wz ⟨rfl, h1, h2⟩
   exact ⟨_, rfl, rfl, h1, h2⟩
  rintro vz w8 ⟨rfl, ⟨de8, h1, h1'⟩, h2⟩
  have J8 := Keep.mk h1
  have HE8 := Keep.mk h1'
  have hgt : ∀ {k : Nat} {T : TypeId}, Typ w7 k T → T ≠ 81 → ¬ k = g := fun hk hT e => by subst e; exact hT (hk.one J7.out.typ)
  have D8 : Keep (DskAt w8 p vf cs7 (if D.fuse = 0 then D.act else D.act.sync i)) := ⟨D7.out.grown h2 fun k hk => by rcases hk with h | h | h <;> exact hgt h (by decide)⟩
  have Q8 : Keep (Blk w8 q 88 #[.int .i64 kz, .int .i64 0]) := ⟨h2.blk Q7.out (hgt Q7.out.typ (by decide))⟩
  have P8 : Keep (OwnP w8 vp V.pl) := ⟨P7.out.grown h2 fun k hk => hgt (P7.out.typ hk) (by decide)⟩
  have G8 : Keep (Grown w w8 N) := ⟨G7.out.trans (h2.mono fun k _ e => HN.out k (.inr (.inl e)))⟩
  clear h1 h1' h2 hgt
  refine hK _ _ (HSx.out _ _ J8.out) fun hH8 => ?_
  clear hK
  simp only [Act.put, pqA, pqB, pqC]
  refine tkS (i := 12) (oi := ⟨some 6, Op.assign (Operand.tmp 54), 31, _, _, none⟩) (v := .int .i64 ee) rfl (Or.inl ⟨by rfl, fun w hS => by obtain ⟨hS1, hS2⟩ := hS; go_simp⟩) hH8 ?_
  refine wpAnyH_done (by kernel_rfl) ?_ _
  refine hK12 _ _ ?_
  refine wp_seq_k fun K13 hK13 => ?_
  rcases Decidable.em (D.fuse = 0) with hfu | hfu
  ·have he : ee = 7 := by rw [hee.out]; unfold pw; rw [if_pos hfu]
   subst he
   have D9 := D8
   rw [if_pos hfu] at D9
   refine rgn ?_
   refine VlS (.int .i64 7) ?_
   refine VlS (.bool true) ?_
   refine WL.nil (hK13 _ _ ?_)
   refine wp_cond_true rfl ?_
   refine wp_seq_k fun K14 hK14 => rgn ?_
   refine VlS (.int .i64 7) ?_
   refine VlS (.int .i64 7) ?_
   refine WL.nil (hK14 _ _ ?_)
   refine wp_ret ?_
   go_ret
   exact ⟨7, D.act, V, la, de8, rfl, ⟨G8.out.blk HDk.out Hd.out, vf, cs7, vp, D9.out, J8.out, P8.out, fun k hk => ⟨.inl (HN.out k (hk.imp (N7.out k) id)), by rcases hk with h | h | h; exact D9.out.sLt h; rw [h]; exact J8.out.lt; exact (P8.out.typ h).lt⟩⟩, G8.out, by show D.acts ≤ D.acts + 1 ∧ D.acts + 1 ≤ D.acts + 300; omega, .inr (.inl ⟨rfl, (HX.out.ji.act.cr HX.out.su.act).more l⟩)⟩
  ·have he : ee = 0 := by rw [hee.out]; unfold pw; rw [if_neg hfu]
   subst he
   have D9 := D8
   rw [if_neg hfu] at D9
   have hde : de8 = false := HE8.out (by decide)
   subst hde
   have Hfu := Keep.mk hfu
   clear hfu D8 HE8
   refine rgn ?_
   refine VlS (.int .i64 0) ?_
   refine VlS (.bool false) ?_
   refine WL.nil (hK13 _ _ ?_)
   refine wp_cond_false rfl ?_
   refine wp_skip ?_
   refine hK10 _ _ ?_
   rw [hkz.out] at Q8
   obtain ⟨m1, m2⟩ := HX.out.ji.act.sync hpr.out (i := i) (f := f) HFi.out HFn.out
   have hsafe := HX.out.ji.act.synced hpr.out (i := i) (f := f) HFi.out HFn.out
   have ho1 : (D.act.sync i).out = false := by rw [← HX.out.out]; exact (act_on Hfu.out).1
   have ha1 : (D.act.sync i).acts = D.acts + 1 := rfl
   generalize D.act.sync i = D1 at *
   have hk1 : V.pr = (k : Int) - 1 := by have := hk.out; have := hpr.out; omega
   have hlk0 : lk D1.fs (nmS k) = none := m1.hi k (by omega) hk256.out
   obtain ⟨j, hfd, _⟩ := fnd_absent hlk0
   have hcnt : D1.fs.length < 256 := by have h1 := m1.count hk1; have := hk256.out; omega
   obtain ⟨n1, n2⟩ := m1.new (sure := sure) (m := k) (i := j) (p := l) HX.out.su.1 hk1 hk256.out hsafe hfd hcnt HPo.out HBy.out
   have hk2 := hk256.out
   have hAp : ∀ (wx : World) (v : Value), Blk wx d 53 #[ptr p] → DskAt wx p vf cs7 D1 → RowAt wx v (fr l) → (∀ k, v.ownBlock = some k → k ≠ p) → Calls Tryd.prog 35 #[ptr d, .string (nmS k), v] wx fun e w' => e = .returned (.int .i64 (pw D1)) ∧ ∃ vf' cs', DskAt w' p vf' cs' (D1.appNew j (nmS k) (fr l)) ∧ Grown wx w' (DskS p vf cs7) ∧ ∀ k, DskS p vf' cs' k → DskS p vf cs7 k ∨ wx.heap.size ≤ k := fun wx v h1 h2 h3 h4 => by
    refine (app_new d p j (nmS k) v vf (fr l) cs7 D1 wx h1 h2 ho1 (nm_rgt (by omega)) hfd (by rw [h2.fcs.len]; have := hcnt; omega) ⟨by rw [m1.ok.used]; exact usd_nonneg _, by have := m1.room; omega, by have := m1.room; omega, by rw [m1.ok.used, fr_len]; have := m1.room; have := m1.ok.big; have := HPo.out.2; omega⟩ ⟨m1.ok.acts, by have := HA.out; omega⟩ ⟨by have := m1.ok.fuse; omega, m1.ok.fuse.2⟩ h3 h4).mono ?_
    rintro e w' ⟨rfl, vf', cs', h5, h6, h7⟩
    exact ⟨rfl, vf', cs', h5, h6.mono fun k _ e => .inl e, h7⟩
   exact japp_tail (k := k) (a := 0) (D0 := D) (D := D1) (DA := D1.appNew j (nmS k) (fr l)) (V' := V.new k l) (HT.out.grown G8.out (fun e => by have h1 := HRz.out; exact h1 e)) G8.out J8.out P8.out HDk.out D9.out (fun k hk => HN.out k (hk.imp (N7.out k) id)) HNl.out Hd.out Q8.out hqw.out (HR.out.grown G8.out fun b hb _ e => HRn.out (by intro e2; have h1 := HPo.out.1; rw [e2] at h1; simp at h1) b hb e) hk256.out (by omega) HPo.out (by have := HX.out.ji.few; omega) hAp (by show D.acts ≤ D1.acts + 1 ∧ D1.acts + 1 ≤ D.acts + 300; omega) ⟨rfl, rfl, by show 16 + (l.length : Int) = 0 + 16 + (l.length : Int); omega, rfl⟩ (fun hfu => ⟨n1, n2, (fun h => by cases h), (fun _ => by show (0 : Int) ≤ (k : Int); omega), by rw [← ho1]; exact (act_on hfu).1⟩) (n1.cr n2)

theorem japp_any (g d p : Nat) (v : Value) (l : List Int) (D : DV) (V : JV) (la : Bool) (sure : Nat) (N : Nat → Prop) (w : World) (hT : Tab w) (hDN : JDN w g d p D V la false N) (hNl : ∀ k, N k → k < w.heap.size) (hd : ¬ N d) (hX : JX D V la sure) (hA : D.acts ≤ 4611686018427380000) (hR : RowAt w v l) (hRn : l ≠ [] → ∀ k, v.ownBlock = some k → ¬ N k) (hBy : Byts l) (h0 : ¬ N 0) : Calls Tryd.prog 20 #[ptr g, v] w (JAppPost D V la l sure g d p N w) := by
 by_cases h1 : l.length = 0
 ·exact japp_empty g d p v l D V la sure N w hT hDN hNl hd hX hA hR hRn hBy h1
 by_cases h2 : 1048576 < l.length
 ·exact japp_big g d p v l D V la sure N w hT hDN hNl hd hX hA hR hRn hBy h2
 have hPo : PayOk l := ⟨by omega, by omega⟩
 have hb := openV_bnd (Fk D.fs)
 rw [hX.ji.rd] at hb
 by_cases h3 : V.pr = -1
 ·exact japp_first g d p v l D V la sure N w hT hDN hNl hd hX hA hR hRn hBy hPo h3
 have h4 : V.pr = (V.pr.toNat : Int) := by omega
 by_cases h5 : 0 < V.sz ∧ 65536 < V.sz + (16 + (l.length : Int))
 ·exact japp_next g d p v l D V la sure N w hT hDN hNl hd hX hA hR hRn hBy _ h0 hPo h4 h5
 ·exact japp_same g d p v l D V la sure N w hT hDN hNl hd hX hA hR hRn hBy _ hPo h4 h5
theorem run_part32 (c : Nat → Int) (i : Nat) (hi : i < 32) (w : World) : (part 5 (bytesA 32 c) i).run Tryd.prog w = .ok (.int .u8 (c i)) w := by
 unfold part
 rw [Sem.run_bind, Tryd.isAgg5r]
 simp [Result.andThen, bytesA_get 32 c i hi]
theorem run_items32 (c e : Nat → Int) (d : Nat) (w : World) : ∀ is : List Nat, (∀ i ∈ is, i < 32) → (Op.eqItems (d + 1) 5 1 (bytesA 32 c) (bytesA 32 e) is).run Tryd.prog w = .ok (is.all fun i => c i == e i) w
 | [], _ => by simp [Op.eqItems]
 | i :: is, h => by
  have hi := h i (by simp)
  have ih := run_items32 c e d w is (fun j hj => h j (by simp [hj]))
  simp only [Op.eqItems, Sem.run_bind, Nat.mul_one, run_part32 c i hi, run_part32 e i hi, Result.andThen_ok]
  rw [run_equalIn_int (P := Tryd.prog) (w := w) d 5 .u8 .u8 (c i) (e i) Tryd.underlying5]
  by_cases hh : c i = e i
  ·simp [Result.andThen_ok, ih, hh]
  ·simp [Result.andThen_ok, hh]
def kO (p : List Int) : List Int := hl 32 (shaP p)
theorem hl_eq_iff (c e : Nat → Int) : ((List.range 32).all fun i => c i == e i) = decide (hl 32 c = hl 32 e) := by
 by_cases h : hl 32 c = hl 32 e
 ·rw [decide_eq_true h, List.all_eq_true]
  intro i hi
  have hi' := List.mem_range.1 hi
  have := hl_get 32 c i hi'
  rw [h, hl_get 32 e i hi'] at this
  simp [this]
 ·rw [decide_eq_false h, Bool.eq_false_iff]
  intro h2
  refine h ?_
  unfold hl
  refine List.map_congr_left fun i hi => ?_
  have := List.all_eq_true.1 h2 i hi
  simpa using this
theorem eqK (p q : List Int) (w : World) : (Op.equal 38 (.agg (bytesA 32 (shaP p))) (.agg (bytesA 32 (shaP q)))).run Tryd.prog w = .ok (decide (kO p = kO q)) w := by
 obtain ⟨i, hi, _⟩ := Option.map_eq_some_iff.1 Tryd.size5r
 show (Op.equalIn 10000 38 (.agg (bytesA 32 (shaP p))) (.agg (bytesA 32 (shaP q)))).run Tryd.prog w = _
 rw [run_equalIn_array (P := Tryd.prog) w 9999 _ _ Tryd.underlying38 hi, Tryd.cells5r, run_items32 _ _ 9998 w _ (fun j hj => List.mem_range.1 hj), hl_eq_iff]
 rfl
theorem Tryd.chkK (em : Bool) (c : Nat → Int) (w : World) : (Instr.checkKey em 10000 38 (.agg (bytesA 32 c))).run Tryd.prog w = .ok () w := by cases em <;> kernel_rfl
def hasK (ps : List (List Int)) (p : List Int) : Bool := ps.any fun q => decide (kO p = kO q)
theorem hasK_not {ps : List (List Int)} {p : List Int} (h : hasK ps p = false) : ∀ q ∈ ps, kO q ≠ kO p := fun q hq e => by
 have := List.any_eq_false.1 h q hq
 simp [e] at this
def DisK (ps : List (List Int)) : Prop := ps.Pairwise fun a b => kO a ≠ kO b
theorem DisK.nil : DisK [] := List.Pairwise.nil
theorem DisK.snoc {ps : List (List Int)} {p : List Int} (h : DisK ps) (hp : hasK ps p = false) : DisK (ps ++ [p]) := by
 refine List.pairwise_append.2 ⟨h, List.pairwise_singleton _ _, fun a ha b hb => ?_⟩
 rw [List.mem_singleton.1 hb]
 exact hasK_not hp a ha
theorem DisK.take {ps : List (List Int)} (h : DisK ps) (k : Nat) : DisK (ps.take k) := List.Pairwise.sublist (List.take_sublist _ _) h
theorem DisK.at {ps : List (List Int)} (h : DisK ps) {t : Nat} (ht : t < ps.length) : hasK (ps.take t) (ps.getD t []) = false := by
 rw [hasK, List.any_eq_false]
 intro q hq
 obtain ⟨i, hi, e⟩ := List.getElem_of_mem hq
 have hit : i < t := by have := hi; rw [List.length_take] at this; omega
 have h1 := List.pairwise_iff_getElem.1 h i t (by omega) ht hit
 rw [List.getElem_take] at e
 rw [List.getD_eq_getElem?_getD, List.getElem?_eq_getElem ht, ← e]
 simp only [Option.getD_some, decide_eq_true_eq]
 exact fun e => h1 e.symm
def EntsK : Nat → List (List Int) → List MapEntry → Prop
 | _, [], [] => True
 | s, p :: l, e :: es => (e.key = .agg (bytesA 32 (shaP p)) ∧ e.val = .int .i64 (s : Int)) ∧ EntsK (s + 1) l es
 | _, _, _ => False
def IxK (w : World) (b : Nat) (l : List (List Int)) : Prop := ∃ es ck, w.heap[b]? = some (.map es ck) ∧ EntsK 0 l es.toList
theorem EntsK.app (p : List Int) (c : Nat) : ∀ {s : Nat} {l : List (List Int)} {es : List MapEntry}, EntsK s l es → EntsK s (l ++ [p]) (es ++ [⟨.agg (bytesA 32 (shaP p)), .int .i64 ((s + l.length : Nat) : Int), c⟩])
 | s, [], [], _ => ⟨⟨rfl, by simp⟩, trivial⟩
 | s, _ :: l, _ :: _, k => ⟨k.1, by have := EntsK.app p c k.2; rw [List.length_cons, show s + (l.length + 1) = s + 1 + l.length by omega]; exact this⟩
 | _, [], _ :: _, h => h.elim
 | _, _ :: _, [], h => h.elim
theorem IxK.lt {w : World} {b : Nat} {l : List (List Int)} (h : IxK w b l) : b < w.heap.size := by
 obtain ⟨es, ck, h1, _⟩ := h
 exact (Array.getElem?_eq_some_iff.1 h1).1
theorem IxK.grown {w w' : World} {b : Nat} {l : List (List Int)} {S : Nat → Prop} (h : IxK w b l) (hg : Grown w w' S) (hb : ¬ S b) : IxK w' b l := by
 obtain ⟨es, ck, h1, h2⟩ := h
 exact ⟨es, ck, by rw [hg.block b (Array.getElem?_eq_some_iff.1 h1).1 hb]; exact h1, h2⟩
theorem IxK.ne {w : World} {b k : Nat} {l : List (List Int)} {T : TypeId} (h : IxK w b l) (hb : Typ w k T) : k ≠ b := by
 obtain ⟨es, ck, h1, _⟩ := h
 rintro rfl
 obtain ⟨cs, fz, h2⟩ := hb
 rw [h1] at h2
 cases h2
theorem IxK.new (w : World) : IxK (w.alloc (.map #[] 0)) w.heap.size [] := ⟨#[], 0, by show (w.heap.push _)[w.heap.size]? = _; exact Array.getElem?_push_size, trivial⟩
theorem findK (p : List Int) : ∀ {s : Nat} {l : List (List Int)} {es : List MapEntry}, EntsK s l es → ∀ i, ∃ r : Option (Nat × Value), r.isSome = hasK l p ∧ (∀ x, r = some x → ∃ n : Nat, x.2 = .int .i64 (n : Int)) ∧ ∀ wx : World, (Instr.findAsking 38 (.agg (bytesA 32 (shaP p))) es i).run Tryd.prog wx = .ok r wx
 | _, [], [], _, i => ⟨none, rfl, (fun x h => by cases h), fun wx => rfl⟩
 | s, h :: l, e :: es, k, i => by
  have hk : ∀ wx, (Instr.findAsking 38 (.agg (bytesA 32 (shaP p))) (e :: es) i).run Tryd.prog wx = if decide (kO p = kO h) = true then .ok (some (i, e.val)) wx else (Instr.findAsking 38 (.agg (bytesA 32 (shaP p))) es (i + 1)).run Tryd.prog wx := fun wx => by
   rw [Instr.findAsking, k.1.1, Sem.run_bind, eqK, Result.andThen_ok]
   show (if decide (kO p = kO h) = true then _ else _ : Sem _).run Tryd.prog wx = _
   split <;> rfl
  by_cases hx : kO p = kO h
  ·refine ⟨some (i, e.val), by simp [hasK, hx], (fun x h => by cases h; exact ⟨s, k.1.2⟩), fun wx => ?_⟩
   rw [hk, if_pos (by simp [hx])]
  ·obtain ⟨r, h1, h2, h3⟩ := findK p k.2 (i + 1)
   refine ⟨r, by rw [h1]; simp [hasK, hx], h2, fun wx => ?_⟩
   rw [hk, if_neg (by simp [hx]), h3]
 | _, [], _ :: _, h, _ => h.elim
 | _, _ :: _, [], h, _ => h.elim
theorem findKey_eqK (p : List Int) (es : List MapEntry) (w : World) : (Instr.findKey 38 (.agg (bytesA 32 (shaP p))) es).run Tryd.prog w = (Instr.findAsking 38 (.agg (bytesA 32 (shaP p))) es 0).run Tryd.prog w := by
 unfold Instr.findKey
 rw [Sem.run_bind, run_underlying Tryd.underlying38, Result.andThen_ok]
 cases es <;> rfl
theorem lookK {w : World} {b : Nat} {l : List (List Int)} (h : IxK w b l) (p : List Int) : ∃ n : Nat, ∀ wx : World, wx.heap[b]? = w.heap[b]? →
  (Instr.lookup 59 (.map (some b)) (.agg (bytesA 32 (shaP p))) true).run Tryd.prog wx = .ok (.tuple #[.int .i64 (n : Int), .bool (hasK l p)]) wx := by
 obtain ⟨es, ck, h1, h2⟩ := h
 obtain ⟨r, r1, r2, r3⟩ := findK p h2 0
 cases hr : r with
 | none =>
  rw [hr] at r1 r3
  refine ⟨0, fun wx hwx => ?_⟩
  rw [h1] at hwx
  rw [← r1]
  simp [Instr.lookup, run_underlying Tryd.underlying59, MapKept.run_getObj_map hwx, Tryd.chkK, findKey_eqK, r3, Result.andThen]
 | some x =>
  obtain ⟨n, hn⟩ := r2 x hr
  rw [hr] at r1 r3
  refine ⟨n, fun wx hwx => ?_⟩
  rw [h1] at hwx
  rw [← r1]
  simp [Instr.lookup, run_underlying Tryd.underlying59, MapKept.run_getObj_map hwx, Tryd.chkK, findKey_eqK, r3, Result.andThen, hn]
theorem grown_block {w : World} {b : Nat} {es : Array MapEntry} {ck : Nat} (h1 : w.heap[b]? = some (.map es ck)) (o : Obj) : Grown w { w with heap := w.heap.setIfInBounds b o } fun k => k = b :=
 ⟨rfl, rfl, rfl, by simp, fun k hk hb => by simp [Array.getElem?_setIfInBounds, Ne.symm hb]⟩
theorem updK {w : World} {b : Nat} {l : List (List Int)} (h : IxK w b l) (p : List Int) (hp : hasK l p = false) (n : Nat) (hn : n = l.length) :
  ∃ w', (Instr.mapUpdate 59 (.map (some b)) (.agg (bytesA 32 (shaP p))) (.int .i64 (n : Int))).run Tryd.prog w = .ok () w' ∧ IxK w' b (l ++ [p]) ∧ Grown w w' fun k => k = b := by
 subst hn
 obtain ⟨es, ck, h1, h2⟩ := h
 have hlt := (Array.getElem?_eq_some_iff.1 h1).1
 obtain ⟨r, r1, r2, r3⟩ := findK p h2 0
 obtain rfl : r = none := by rw [hp] at r1; cases r with | none => rfl | some x => cases r1
 have hg := grown_block h1 (.map (es.push ⟨.agg (bytesA 32 (shaP p)), .int .i64 (l.length : Int), ck⟩) (ck + 1))
 refine ⟨{ w with heap := w.heap.setIfInBounds b (.map (es.push ⟨.agg (bytesA 32 (shaP p)), .int .i64 (l.length : Int), ck⟩) (ck + 1)) }, ?_, ⟨_, _, by simp [hlt]; exact ⟨rfl, rfl⟩, ?_⟩, hg⟩
 ·simp [Instr.mapUpdate, run_underlying Tryd.underlying59, MapKept.run_getObj_map h1, Tryd.chkK, findKey_eqK, r3, MapKept.run_setObj_map _ h1, Result.andThen]
 ·rw [Array.toList_push]
  have := EntsK.app p ck h2
  rw [Nat.zero_add] at this
  exact this
def bkA (p : List Int) (r : Value) : Array Value := bytesA 32 (shaP p) ++ #[r]
theorem bkA_size (p : List Int) (r : Value) : (bkA p r).size = 33 := by simp [bkA, bytesA_size]
theorem bkA_len (p : List Int) (r : Value) : (bkA p r).toList.length = 33 := by rw [Array.length_toList, bkA_size]
theorem bkA_row (p : List Int) (r : Value) : (bkA p r)[32]? = some r := by unfold bkA; rw [Array.getElem?_append_right (by rw [bytesA_size]; omega), bytesA_size]; rfl
theorem bkA_one (p : List Int) (r : Value) (hr : r.oneCell' = true) : (bkA p r).all (·.oneCell') = true := by
 have := bytesA_one 32 (shaP p)
 simp only [bkA, Array.all_append, this, Bool.true_and]
 rw [← Array.all_toList]
 simp only [List.all_cons, List.all_nil, hr, Bool.and_self]
theorem Tryd.sizeBk : (Tryd.prog.info? 76).map (·.size) = some 33 := by kernel_rfl
theorem Tryd.sizeBkA (p : List Int) (r : Value) : (Tryd.prog.info? 76).map (·.size) = some (bkA p r).size := by rw [bkA_size]; exact Tryd.sizeBk
def bkZ : Array Value := bytesA 32 (fun _ => 0) ++ #[.slice none 0 0]
theorem bkZ_size : bkZ.size = 33 := by simp [bkZ, bytesA_size]
theorem Tryd.newBk (w : World) : (Instr.alloc 76 true (.tuple #[])).run Tryd.prog w = .ok (.pointer (some ⟨w.heap.size, 0, none⟩)) (w.alloc (.cells bkZ 76)) := by kernel_rfl
theorem Tryd.infoBk : (Tryd.prog.info? 76).map (fun i => (i.zero, i.size, i.bytes)) = some (some (.agg bkZ), 33, 56) := by kernel_rfl
theorem bsBk (p : List Int) (a : Option Addr) (n c : Nat) (w : World) : (Instr.buildSlice 60 1 #[(0, .agg (bkA p (.slice a n c)))]).run Tryd.prog w = .ok (.slice (some ⟨w.heap.size, 0, none⟩) 1 1) (w.alloc (.cells (bkA p (.slice a n c)) 76)) := by kernel_rfl
theorem bsBkE (w : World) : (Instr.buildSlice 60 0 #[]).run Tryd.prog w = .ok (.slice (some ⟨w.heap.size, 0, none⟩) 0 0) (w.alloc (.cells #[] 76)) := by kernel_rfl
abbrev BX := List Int × Value
def bkL (L : List BX) : List Value := L.flatMap fun x => (bkA x.1 x.2).toList
theorem bkL_len : ∀ L : List BX, (bkL L).length = L.length * 33
 | [] => rfl
 | c :: r => by
  have h := bkL_len r
  unfold bkL at h ⊢
  rw [List.flatMap_cons, List.length_append, h, bkA_len, List.length_cons]
  omega
theorem bkL_app (L M : List BX) : bkL (L ++ M) = bkL L ++ bkL M := by simp [bkL]
theorem bkL_cons (x : BX) (r : List BX) : bkL (x :: r) = (bkA x.1 x.2).toList ++ bkL r := rfl
theorem bkL_get (L : List BX) : ∀ (t : Nat) (x : BX), L[t]? = some x → ∀ (j : Nat) (v : Value), (bkA x.1 x.2).toList[j]? = some v → (bkL L)[t * 33 + j]? = some v := by
 induction L with
 | nil => intro t x h; simp at h
 | cons d r ih =>
  intro t x h j v hv
  have hl := bkA_len d.1 d.2
  have hj : j < 33 := by have := (List.getElem?_eq_some_iff.1 hv).1; rwa [bkA_len] at this
  rw [bkL_cons]
  cases t with
  | zero =>
   have e : d = x := by simpa using h
   subst e
   rw [Nat.zero_mul, Nat.zero_add, List.getElem?_append_left (by rw [hl]; exact hj)]
   exact hv
  | succ t =>
   have h2 : r[t]? = some x := by simpa using h
   rw [List.getElem?_append_right (by rw [hl]; omega), hl, show (t + 1) * 33 + j - 33 = t * 33 + j by omega]
   exact ih t x h2 j v hv
def SlB (L : List BX) : Prop := ∀ x ∈ L, ∃ a n c, x.2 = .slice a n c
theorem bkL_one {L : List BX} (h : SlB L) : ∀ u ∈ bkL L, u.oneCell' = true := fun u hu => by
 unfold bkL at hu
 obtain ⟨x, hx, hu⟩ := List.mem_flatMap.1 hu
 obtain ⟨a, n, c, e⟩ := h x hx
 exact (Array.all_eq_true_iff_forall_mem.1 (bkA_one x.1 x.2 (by rw [e]; rfl))) u (by simpa using hu)
def OwnB (w : World) (v : Value) (L : List BX) : Prop := w.ownsRow 0 76 33 v L.length (bkL L)
theorem OwnB.form {w : World} {v : Value} {l : List BX} (h : OwnB w v l) : (v = .slice none 0 0 ∧ l = []) ∨ ∃ g cap cur, v = .slice (some ⟨g, 0, none⟩) l.length cap ∧ Blk w g 76 cur ∧ l.length ≤ cap ∧ cap ≤ maxLen ∧ cur.size = cap * 33 ∧ cur.toList.take (l.length * 33) = bkL l := by
 rcases h.2 with ⟨rfl, h0⟩ | ⟨g, cap, cur, rfl, _, h3, h4, h5, h6, h7⟩
 ·exact .inl ⟨rfl, List.eq_nil_of_length_eq_zero h0⟩
 ·exact .inr ⟨g, cap, cur, rfl, h3, h4, h5, h6, h7⟩
theorem OwnB.sl {w : World} {v : Value} {l : List BX} (h : OwnB w v l) : ∃ a c, v = .slice a l.length c := by
 rcases h.form with ⟨rfl, rfl⟩ | ⟨g, cap, cur, rfl, _⟩
 ·exact ⟨_, _, rfl⟩
 ·exact ⟨_, _, rfl⟩
theorem OwnB.lt {w : World} {v : Value} {l : List BX} (h : OwnB w v l) : ∀ k, v.ownBlock = some k → k < w.heap.size := fun k hk => (World.ownsRow.lt h k hk).2
theorem OwnB.grown {w w' : World} {v : Value} {l : List BX} {S : Nat → Prop} (h : OwnB w v l) (hg : Grown w w' S) (hs : ∀ k, v.ownBlock = some k → ¬ S k) : OwnB w' v l := by
 refine ⟨h.1, ?_⟩
 rcases h.2 with h1 | ⟨g, cap, cur, rfl, h2, h3, h4⟩
 ·exact .inl h1
 ·exact .inr ⟨g, cap, cur, rfl, h2, hg.blk h3 (hs g rfl), h4⟩
theorem OwnB.below {w w' : World} {v : Value} {l : List BX} (h : OwnB w v l) (hb : Below w.heap.size w w') : OwnB w' v l := h.grown (Grown.below (S := fun _ => False) hb) fun _ _ h => h
theorem OwnB.typ {w : World} {v : Value} {l : List BX} (h : OwnB w v l) {k : Nat} (hk : v.ownBlock = some k) : Typ w k 76 := by
 rcases h.form with ⟨rfl, _⟩ | ⟨g, cap, cur, rfl, h3, _⟩
 ·simp [Value.ownBlock] at hk
 ·simp [Value.ownBlock] at hk
  subst hk
  exact h3.typ
theorem OwnB.at {w : World} {a : Option Addr} {n cp : Nat} {l : List BX} (h : OwnB w (.slice a n cp) l) {t : Nat} {x : BX} (ht : l[t]? = some x) : ∃ g, a = some ⟨g, 0, none⟩ ∧ w.rangeAt g (t * 33) (bkA x.1 x.2).toList := by
 rcases h.form with ⟨_, rfl⟩ | ⟨g, cap, cur, e, h3, h4, _, _, h5⟩
 ·simp at ht
 ·injection e with e1 _ _
  refine ⟨g, e1, fun j v hv => ?_⟩
  have h6 := bkL_get l t x ht j v hv
  have hj : j < 33 := by have := (List.getElem?_eq_some_iff.1 hv).1; rwa [bkA_len] at this
  have htl := (List.getElem?_eq_some_iff.1 ht).1
  rw [h3.cell, ← h6, ← h5, List.getElem?_take, if_pos (by omega), Array.getElem?_toList]
theorem ownB_empty (w : World) : OwnB (w.alloc (.cells #[] 76)) (.slice (some ⟨w.heap.size, 0, none⟩) 0 0) [] :=
 ⟨rfl, .inr ⟨w.heap.size, 0, #[], rfl, Nat.zero_le _, Blk.new w 76 #[], Nat.le_refl _, by decide, rfl, rfl⟩⟩
theorem ownB_nil (w : World) : OwnB w (.slice none 0 0) [] := ⟨rfl, .inl ⟨rfl, rfl⟩⟩
theorem run_appB (w : World) (ty : TypeId) (v : Value) (l : List BX) (hown : OwnB w v l) (g off c : Nat) (m : List BX) (hm : SlB m) (hg : ∀ j u, (bkL m)[j]? = some u → w.cell? ⟨g, off + j, none⟩ = some u) (hb : l.length + m.length ≤ 1000000000000) :
  ∃ v' w', (Builtin.append_ #[60, 60] ty #[v, .slice (some ⟨g, off, none⟩) m.length c]).run Tryd.prog w = .ok v' w' ∧ OwnB w' v' (l ++ m) ∧ (Grown w w' fun k => v.ownBlock = some k) ∧ Moved w v v' := by
 obtain ⟨i, hi, hzz⟩ := Option.map_eq_some_iff.1 Tryd.infoBk
 simp only [Prod.mk.injEq] at hzz
 obtain ⟨hz, hsz, hby⟩ := hzz
 obtain ⟨v', w', hr, h1, h2, _, h3⟩ := run_append_own_at (P := Tryd.prog) w 0 60 ty 76 i (.agg bkZ) 33 56 Tryd.underlying60 hi hz hsz hby (by show bkZ.size = 33; exact bkZ_size) (by omega) v l.length (bkL l) hown ⟨g, off, none⟩ m.length c (bkL m) (by rw [bkL_len]) (fun j u hu => by
   rw [Addr.add_mid]; exact hg j u hu)
  (bkL_one hm) (by unfold maxLen; omega) (by omega) (Nat.zero_le _)
 refine ⟨v', w', hr, ?_, Grown.of h2 fun k _ e => e, ?_⟩
 ·unfold OwnB
  rw [List.length_append, bkL_app]
  exact h1
 ·rcases h3 with h3 | h3
  ·exact .inl h3
  ·exact .inr ⟨_, h3, Nat.le_refl _⟩
theorem WL.appB {ops : Array Oper} {rest : List Oper} {o : Oper} {a : Act} {w : World} {Q : Exit → Act → World → Prop} (hw : Region.wanted o (yielded ops a.tmps) = true) (s x : Operand)
  (ho : o.op = .call { callee := .builtin .append, args := #[s, x], argTypes := #[60, 60] }) (v : Value) (l : List BX) (g off c : Nat) (m : List BX) (hm : SlB m)
  (hs : a.eval s = v) (hx : a.eval x = .slice (some ⟨g, off, none⟩) m.length c) (hown : OwnB w v l) (hg : ∀ j u, (bkL m)[j]? = some u → w.cell? ⟨g, off + j, none⟩ = some u) (hb : l.length + m.length ≤ 1000000000000)
  (h : ∀ v' w', OwnB w' v' (l ++ m) → (Grown w w' fun k => v.ownBlock = some k) → Moved w v v' → WL Tryd.prog ops Q rest (a.put o.dst v') w') : WL Tryd.prog ops Q (o :: rest) a w :=
 ⟨wpList_wanted hw fun K hK => by
  obtain ⟨v', w', hr, h1, h2, h3⟩ := run_appB w o.type v l hown g off c m hm hg hb
  unfold Oper.wp execOp
  simp only [ho, resolve, invoke, builtin, Sem.run_bind, Sem.run_pure, Result.andThen_ok, List.map_toArray, List.map_cons, List.map_nil, hs, hx, hr]
  exact hK _ _ (h v' w' h1 h2 h3).out⟩
theorem wp_appB {Q : Exit → Act → World → Prop} {o : Oper} {a : Act} {w : World} {K : Act → World → Prop} (s x : Operand)
  (ho : o.op = .call { callee := .builtin .append, args := #[s, x], argTypes := #[60, 60] }) (v : Value) (l : List BX) (g off c : Nat) (m : List BX) (hm : SlB m)
  (hs : a.eval s = v) (hx : a.eval x = .slice (some ⟨g, off, none⟩) m.length c) (hown : OwnB w v l) (hg : ∀ j u, (bkL m)[j]? = some u → w.cell? ⟨g, off + j, none⟩ = some u) (hb : l.length + m.length ≤ 1000000000000)
  (h : ∀ v' w', OwnB w' v' (l ++ m) → (Grown w w' fun k => v.ownBlock = some k) → Moved w v v' → K (a.put o.dst v') w') : o.wp Tryd.prog a w K Q := by
 obtain ⟨v', w', hr, h1, h2, h3⟩ := run_appB w o.type v l hown g off c m hm hg hb
 unfold Oper.wp execOp
 simp only [ho, resolve, invoke, builtin, Sem.run_bind, Sem.run_pure, Result.andThen_ok, List.map_toArray, List.map_cons, List.map_nil, hs, hx, hr]
 exact h v' w' h1 h2 h3
def sA (g : Nat) (vl : Value) (m : Nat) (de : Bool) : Array Value := #[ptr g, vl, .map (some m), .bool de]
def StS (s m : Nat) (vl : Value) (L : List BX) (k : Nat) : Prop := k = s ∨ k = m ∨ vl.ownBlock = some k ∨ ∃ x ∈ L, x.2.ownBlock = some k
structure StoAt (w : World) (s g m : Nat) (vl : Value) (L : List BX) (de : Bool) : Prop where
 bs : Blk w s 62 (sA g vl m de)
 ix : IxK w m (L.map (·.1))
 ol : OwnB w vl L
 rows : ∀ x ∈ L, RowAt w x.2 x.1 ∧ x.1 ≠ []
 ap : ∀ x ∈ L, ∀ k, x.2.ownBlock = some k → k ≠ s ∧ k ≠ m ∧ vl.ownBlock ≠ some k
theorem row_lt {w : World} {v : Value} {l : List Int} (h : RowAt w v l) (hl : l ≠ []) : ∀ k, v.ownBlock = some k → k < w.heap.size := fun k hk => by
 rcases h with ⟨_, e⟩ | ⟨_, _, _, e⟩ | ⟨g, off, cap, rfl, _, h⟩
 ·exact absurd e hl
 ·exact absurd e hl
 ·cases hk
  exact cell_lt (h 0 (List.length_pos_iff.2 hl))
theorem StoAt.lt {w : World} {s g m : Nat} {vl : Value} {L : List BX} {de : Bool} (h : StoAt w s g m vl L de) {k : Nat} (hk : StS s m vl L k) : k < w.heap.size := by
 rcases hk with rfl | rfl | hk | ⟨x, hx, hk⟩
 ·exact h.bs.lt
 ·exact h.ix.lt
 ·exact h.ol.lt k hk
 ·exact row_lt (h.rows x hx).1 (h.rows x hx).2 k hk
theorem StoAt.grown {w w' : World} {s g m : Nat} {vl : Value} {L : List BX} {de : Bool} {S : Nat → Prop} (h : StoAt w s g m vl L de) (hg : Grown w w' S) (hs : ∀ k, StS s m vl L k → ¬ S k) : StoAt w' s g m vl L de :=
 ⟨hg.blk h.bs (hs s (.inl rfl)), h.ix.grown hg (hs m (.inr (.inl rfl))), h.ol.grown hg fun k hk => hs k (.inr (.inr (.inl hk))), fun x hx => ⟨(h.rows x hx).1.grown hg fun k hk _ => hs k (.inr (.inr (.inr ⟨x, hx, hk⟩))), (h.rows x hx).2⟩, h.ap⟩
theorem StoAt.below {w w' : World} {s g m : Nat} {vl : Value} {L : List BX} {de : Bool} (h : StoAt w s g m vl L de) (hb : Below w.heap.size w w') : StoAt w' s g m vl L de := h.grown (Grown.below (S := fun _ => False) hb) fun _ _ h => h
theorem Tryd.in16 (w : World) (vs : Array Value) : (callFunc 16 vs).run Tryd.prog w = .ok (.enter 16 vs) w := by kernel_rfl
theorem Tryd.in8 (w : World) (vs : Array Value) : (callFunc 8 vs).run Tryd.prog w = .ok (.enter 8 vs) w := by kernel_rfl
theorem Tryd.in19 (w : World) (vs : Array Value) : (callFunc 19 vs).run Tryd.prog w = .ok (.enter 19 vs) w := by kernel_rfl
theorem Tryd.in17 (w : World) (vs : Array Value) : (callFunc 17 vs).run Tryd.prog w = .ok (.enter 17 vs) w := by kernel_rfl
theorem Tryd.in18 (w : World) (vs : Array Value) : (callFunc 18 vs).run Tryd.prog w = .ok (.enter 18 vs) w := by kernel_rfl
theorem Tryd.newHb (w : World) : (Instr.alloc 38 true (.tuple #[])).run Tryd.prog w = .ok (.pointer (some ⟨w.heap.size, 0, none⟩)) (w.alloc (.cells (bytesA 32 fun _ => 0) 38)) := by kernel_rfl
theorem yieldsIf_look {ops : Array Oper} {S : World → Prop} {op : Oper} {a : Act} (hw : Region.wanted op (yielded ops a.tmps) = true) (x y : Operand) (ho : op.op = .lookup 59 x y true) (vx vy v : Value) (hx : a.eval x = vx) (hy : a.eval y = vy)
  (hr : ∀ w, S w → (Instr.lookup 59 vx vy true).run Tryd.prog w = .ok v w) : YieldsIf Tryd.prog ops S op v a :=
 .inl ⟨hw, fun w hS => by unfold execOp; simp only [ho, hx, hy, Sem.run_bind, hr w hS, Result.andThen_ok, Sem.run_pure]⟩
theorem wp_upd {Q : Exit → Act → World → Prop} {o : Oper} {a : Act} {w : World} {K : Act → World → Prop} (m x y : Operand) (ho : o.op = .mapUpdate 59 m x y) (vm vx vy : Value) (hm : a.eval m = vm) (hx : a.eval x = vx) (hy : a.eval y = vy) (w' : World)
  (hr : (Instr.mapUpdate 59 vm vx vy).run Tryd.prog w = .ok () w') (h : K (a.put o.dst undef) w') : o.wp Tryd.prog a w K Q := by
 unfold Oper.wp execOp
 simp only [ho, hm, hx, hy, Sem.run_bind, hr, Result.andThen_ok, Sem.run_pure]
 exact h
theorem run_bldBk (p : List Int) (a : Option Addr) (n c : Nat) (w : World) : (Next.value <$> Instr.build 76 #[(0, .agg (bytesA 32 (shaP p))), (1, .slice a n c)]).run Tryd.prog w = .ok (.value (.agg (bkA p (.slice a n c)))) w := by kernel_rfl
set_option maxRecDepth 8000 in
theorem has_any (s g m : Nat) (vl : Value) (L : List BX) (de : Bool) (q : List Int) (w : World) (hA : StoAt w s g m vl L de) : Calls Tryd.prog 16 #[ptr s, .agg (bytesA 32 (shaP q))] w fun e w' => e = .returned (.bool (hasK (L.map (·.1)) q)) ∧ Below w.heap.size w w' := by
 have HA := Keep.mk hA
 clear hA
 go_enter Tryd.func16, Tryd.ntmps16
 refine wp_seq_k fun K1 hK1 => rgn ?_
 refine WL.box (by kernel_rfl) 38 (.tmp 1) rfl (bytesA 32 (shaP q)) rfl ?_
 have H1 := Keep.mk (Blk.new w 38 (bytesA 32 (shaP q)))
 have B1 := Keep.mk (below_new w (.cells (bytesA 32 (shaP q)) 38))
 change WL _ _ _ _ _ (w.alloc (.cells (bytesA 32 (shaP q)) 38))
 generalize w.alloc (.cells (bytesA 32 (shaP q)) 38) = w1 at *
 obtain ⟨q0, hq0⟩ : ∃ z, Keep (z = w.heap.size) := ⟨_, ⟨rfl⟩⟩
 rw [← hq0.out] at H1 ⊢
 have A1 := Keep.mk (HA.out.below B1.out)
 simp only [Act.put, pqA, pqB, pqC]
 refine VlS (.bool false) ?_
 refine WL.nil (hK1 _ _ ?_)
 refine wp_seq_k fun K2 hK2 => ?_
 obtain ⟨nn, hlk⟩ := lookK A1.out.ix q
 have HLK := Keep.mk hlk
 clear hlk
 obtain ⟨bb, hbb⟩ : ∃ z, Keep (hasK (L.map (·.1)) q = z) := ⟨_, ⟨rfl⟩⟩
 rw [hbb.out] at HLK
 have HS0 : Keep ((w1.drew).cell? ⟨s, 2, none⟩ = some (.map (some m)) ∧ (w1.drew).rangeAt q0 0 (bytesA 32 (shaP q)).toList ∧ (w1.drew).heap[m]? = w1.heap[m]?) := ⟨⟨A1.out.bs.drew.c 2 rfl, blk_range H1.out.drew, rfl⟩⟩
 refine wp_region_held_drew (S := fun wx => wx.cell? ⟨s, 2, none⟩ = some (.map (some m)) ∧ wx.rangeAt q0 0 (bytesA 32 (shaP q)).toList ∧ wx.heap[m]? = w1.heap[m]?) (by kernel_rfl) (HS0.out) (fun hHeld => ?_)
 refine tkS (i := 0) (oi := ⟨some 8, Op.move (Operand.tmp 0), 30, _, _, none⟩) (v := .pointer (some ⟨s, 0, none⟩)) rfl (Or.inl ⟨by rfl, fun w hS => by go_simp⟩) hHeld ?_
 refine tkS (i := 1) (oi := ⟨some 9, Op.nilCheck (Operand.tmp 8), 0, _, _, none⟩) (v := .pointer (some ⟨s, 0, none⟩)) rfl (Or.inl ⟨by rfl, fun w hS => by go_simp⟩) hHeld ?_
 refine tkS (i := 2) (oi := ⟨some 10, Op.fieldAddr 62 (Operand.tmp 9) 2, 0, _, _, none⟩) (v := .pointer (some ⟨s, 2, none⟩)) rfl (Or.inl ⟨by rfl, fun w hS => by go_simp⟩) hHeld ?_
 refine tkS (i := 3) (oi := ⟨some 11, Op.load 59 (Operand.tmp 10), 59, _, _, none⟩) (v := .map (some m)) rfl (Or.inl ⟨by rfl, fun w hS => by have h := hS.1; clear hS; go_simp⟩) hHeld ?_
 refine tkS (i := 4) (oi := ⟨some 12, Op.load 38 (Operand.tmp 3), 38, _, _, none⟩) (v := .agg (bytesA 32 (shaP q))) rfl (yieldsIf_loadAj (by rfl) 38 (.tmp 3) rfl q0 0 rfl (bytesA 32 (shaP q)) _ (fun w hS => hS.2.1) Tryd.underlying38 rfl (Tryd.size38B _)) hHeld ?_
 refine tkS (i := 5) (oi := ⟨some 13, Op.lookup 59 (Operand.tmp 11) (Operand.tmp 12) true, 86, _, _, none⟩) (v := .tuple #[.int .i64 (nn : Int), .bool bb]) rfl (yieldsIf_look (by rfl) (.tmp 11) (.tmp 12) rfl _ _ (.tuple #[.int .i64 (nn : Int), .bool bb]) rfl rfl (fun w hS => HLK.out w hS.2.2)) hHeld ?_
 refine tkS (i := 6) (oi := ⟨some 7, Op.move (Operand.tmp 13), 86, _, _, none⟩) (v := .tuple #[.int .i64 (nn : Int), .bool bb]) rfl (Or.inl ⟨by rfl, fun w hS => by go_simp⟩) hHeld ?_
 refine tkS (i := 7) (oi := ⟨some 14, Op.extract (Operand.tmp 7) 0, 3, _, _, none⟩) (v := .int .i64 (nn : Int)) rfl (Or.inl ⟨by rfl, fun w hS => by go_simp⟩) hHeld ?_
 refine tkS (i := 8) (oi := ⟨some 15, Op.extract (Operand.tmp 7) 1, 4, _, _, none⟩) (v := .bool bb) rfl (Or.inl ⟨by rfl, fun w hS => by go_simp⟩) hHeld ?_
 refine tkS (i := 9) (oi := ⟨some 5, Op.assign (Operand.tmp 14), 3, _, _, none⟩) (v := .int .i64 (nn : Int)) rfl (Or.inl ⟨by rfl, fun w hS => by go_simp⟩) hHeld ?_
 refine tkS (i := 10) (oi := ⟨some 6, Op.assign (Operand.tmp 15), 4, _, _, none⟩) (v := .bool bb) rfl (Or.inl ⟨by rfl, fun w hS => by go_simp⟩) hHeld ?_
 refine wpAnyH_done (by kernel_rfl) ?_ _
 refine hK2 _ _ ?_
 refine wp_seq_k fun K3 hK3 => rgn ?_
 refine VlS (.bool bb) ?_
 refine VlS (.bool bb) ?_
 refine WL.nil (hK3 _ _ ?_)
 refine wp_ret ?_
 go_ret
 exact ⟨by rw [hbb.out]; rfl, B1.out.drew⟩
set_option maxRecDepth 8000 in
theorem blen_any (s n vc : Nat) (va : Option Addr) (w : World) (c1 : w.cell? ⟨s, 1, none⟩ = some (.slice va n vc)) : Calls Tryd.prog 8 #[ptr s] w fun e w' => e = .returned (.int .i64 (n : Int)) ∧ w' = w := by
 go_enter Tryd.func8, Tryd.ntmps8
 refine wp_seq_k fun K1 hK1 => rgn ?_
 refine VlS (.int .i64 0) ?_
 refine WL.nil (hK1 _ _ ?_)
 refine wp_seq_k fun K2 hK2 => rgn ?_
 refine VlS (.pointer (some ⟨s, 0, none⟩)) ?_
 refine VlS (.pointer (some ⟨s, 0, none⟩)) ?_
 refine VlS (.pointer (some ⟨s, 1, none⟩)) ?_
 refine VlS (.slice va n vc) ?_
 refine VlS (.int .i64 (n : Int)) ?_
 refine VlS (.int .i64 (n : Int)) ?_
 refine WL.nil (hK2 _ _ ?_)
 refine wp_ret ?_
 go_ret
 exact ⟨rfl, rfl⟩

theorem StoAt.len {w : World} {s g m : Nat} {vl : Value} {L : List BX} {de : Bool} (h : StoAt w s g m vl L de) : ∃ va vc, w.cell? ⟨s, 1, none⟩ = some (.slice va L.length vc) := by
 obtain ⟨a, c, e⟩ := h.ol.sl
 exact ⟨a, c, by rw [← e]; exact h.bs.c 1 rfl⟩
theorem slen_any (s g m : Nat) (vl : Value) (L : List BX) (de : Bool) (w : World) (hA : StoAt w s g m vl L de) : Calls Tryd.prog 8 #[ptr s] w fun e w' => e = .returned (.int .i64 (L.length : Int)) ∧ w' = w := by
 obtain ⟨va, vc, h⟩ := hA.len
 exact blen_any s L.length vc va w h
set_option maxRecDepth 8000 in
theorem btold_any (s g m : Nat) (vl : Value) (de : Bool) (x : Int) (w : World) (hB : Blk w s 62 (sA g vl m de)) : Calls Tryd.prog 19 #[ptr s, .int .i64 x] w fun e w' => e = .returned (.int .i64 x) ∧ (∃ de', Blk w' s 62 (sA g vl m de') ∧ (x ≠ 7 → de' = de)) ∧ Grown w w' fun k => k = s := by
 have HB := Keep.mk hB
 clear hB
 go_enter Tryd.func19, Tryd.ntmps19
 rcases Decidable.em (x = 7) with hx | hx
 ·subst hx
  refine wp_seq_k fun K1 hK1 => rgn ?_
  refine VlS (.int .i64 0) ?_
  refine WL.nil (hK1 _ _ ?_)
  refine wp_seq_k fun K2 hK2 => ?_
  refine wp_seq_k fun K3 hK3 => rgn ?_
  refine VlS (.int .i64 7) ?_
  refine VlS (.bool true) ?_
  refine WL.nil (hK3 _ _ ?_)
  refine wp_cond_true rfl ?_
  refine rgn ?_
  refine VlS (.pointer (some ⟨s, 0, none⟩)) ?_
  refine VlS (.pointer (some ⟨s, 0, none⟩)) ?_
  refine VlS (.pointer (some ⟨s, 3, none⟩)) ?_
  have f_o := HB.out.frozen 3
  have c_o : w.cell? ⟨s, 3, none⟩ = some (.bool de) := HB.out.c 3 rfl
  refine WL.cell (by kernel_rfl) (w.setCell ⟨s, 3, none⟩ (.bool true)) (by go_simp) ?_
  clear f_o c_o
  have H1 : Keep (Blk (w.setCell ⟨s, 3, none⟩ (.bool true)) s 62 (sA g vl m true)) := ⟨HB.out.set 3 _⟩
  have G1 : Keep (Grown w (w.setCell ⟨s, 3, none⟩ (.bool true)) fun k => k = s) := ⟨Grown.setCell w s 3 _ fun _ => rfl⟩
  generalize w.setCell ⟨s, 3, none⟩ (.bool true) = w1 at *
  simp only [Act.put]
  refine WL.nil (hK2 _ _ ?_)
  refine wp_seq_k fun K4 hK4 => rgn ?_
  refine VlS (.int .i64 7) ?_
  refine VlS (.int .i64 7) ?_
  refine WL.nil (hK4 _ _ ?_)
  refine wp_ret ?_
  go_ret
  exact ⟨rfl, ⟨true, H1.out, fun h => absurd rfl h⟩, G1.out⟩
 ·refine wp_seq_k fun K5 hK5 => rgn ?_
  refine VlS (.int .i64 0) ?_
  refine WL.nil (hK5 _ _ ?_)
  refine wp_seq_k fun K6 hK6 => ?_
  refine wp_seq_k fun K7 hK7 => rgn ?_
  refine VlS (.int .i64 x) ?_
  refine VlS (.bool false) ?_
  refine WL.nil (hK7 _ _ ?_)
  refine wp_cond_false rfl ?_
  refine wp_skip ?_
  refine hK6 _ _ ?_
  refine wp_seq_k fun K8 hK8 => rgn ?_
  refine VlS (.int .i64 x) ?_
  refine VlS (.int .i64 x) ?_
  refine WL.nil (hK8 _ _ ?_)
  refine wp_ret ?_
  go_ret
  exact ⟨rfl, ⟨de, HB.out, fun _ => rfl⟩, Grown.refl _ _⟩
set_option maxRecDepth 8000 in
set_option maxHeartbeats 1000000 in
theorem add_any (s g m n vc rn rc : Nat) (va ra : Option Addr) (L : List BX) (de : Bool) (q : List Int) (w : World) (hA : StoAt w s g m (.slice va n vc) L de) (hR : RowAt w (.slice ra rn rc) q) (hRd : ∀ k, (.slice ra rn rc : Value).ownBlock = some k → k ≠ s ∧ k ≠ m ∧ (.slice va n vc : Value).ownBlock ≠ some k) (hQ : q ≠ []) (hK0 : hasK (L.map (·.1)) q = false) (hN : n = L.length) (hNb : n ≤ 1000000000) :
  Calls Tryd.prog 17 #[ptr s, .agg (bytesA 32 (shaP q)), .slice ra rn rc] w fun e w' => e = .returned (.tuple #[]) ∧ ∃ vl', StoAt w' s g m vl' (L ++ [(q, .slice ra rn rc)]) de ∧ (Grown w w' fun k => k = s ∨ k = m ∨ (.slice va n vc : Value).ownBlock = some k) ∧ ∀ k, vl'.ownBlock = some k → (.slice va n vc : Value).ownBlock = some k ∨ w.heap.size ≤ k := by
 have HA := Keep.mk hA
 have HR := Keep.mk hR
 have HRd := Keep.mk hRd
 have HQ := Keep.mk hQ
 have HK := Keep.mk hK0
 have HN := Keep.mk hN
 have HNb := Keep.mk hNb
 clear hA hR hRd hQ hK0 hN hNb
 go_enter Tryd.func17, Tryd.ntmps17
 refine wp_seq_k fun K1 hK1 => rgn ?_
 refine WL.box (by kernel_rfl) 38 (.tmp 1) rfl (bytesA 32 (shaP q)) rfl ?_
 have H1 := Keep.mk (Blk.new w 38 (bytesA 32 (shaP q)))
 have B1 := Keep.mk (below_new w (.cells (bytesA 32 (shaP q)) 38))
 change WL _ _ _ _ _ (w.alloc (.cells (bytesA 32 (shaP q)) 38))
 generalize w.alloc (.cells (bytesA 32 (shaP q)) 38) = w1 at *
 obtain ⟨q0, hq0⟩ : ∃ z, Keep (z = w.heap.size) := ⟨_, ⟨rfl⟩⟩
 rw [← hq0.out] at H1 ⊢
 have A1 := Keep.mk (HA.out.below B1.out)
 have R1 := Keep.mk (HR.out.below B1.out)
 simp only [Act.put, pqA, pqB, pqC]
 refine WL.nil (hK1 _ _ ?_)
 refine wp_seq_k fun K2 hK2 => ?_
 have D1 : Keep (Below w.heap.size w w1.drew) := ⟨B1.out.drew⟩
 have H2 := Keep.mk H1.out.drew
 have A2 : Keep (StoAt w1.drew s g m (.slice va n vc) L de) := ⟨A1.out.below (Below.refl _ _).drew⟩
 have R2 : Keep (RowAt w1.drew (.slice ra rn rc) q) := ⟨R1.out.below (Below.refl _ _).drew⟩
 clear H1 A1 R1 B1
 have HS0 : Keep (w1.drew.cell? ⟨s, 2, none⟩ = some (.map (some m)) ∧ w1.drew.cell? ⟨s, 1, none⟩ = some (.slice va n vc) ∧ w1.drew.rangeAt q0 0 (bytesA 32 (shaP q)).toList) := ⟨⟨A2.out.bs.c 2 rfl, A2.out.bs.c 1 rfl, blk_range H2.out⟩⟩
 have Hqm : Keep (q0 ≠ m) := ⟨A2.out.ix.ne H2.out.typ⟩
 have Hsm : Keep (s ≠ m) := ⟨A2.out.ix.ne A2.out.bs.typ⟩
 have Hvm : Keep (∀ k, (.slice va n vc : Value).ownBlock = some k → k ≠ m) := ⟨fun k hk => A2.out.ix.ne (A2.out.ol.typ hk)⟩
 refine wp_region_held_drew (S := fun wx => wx.cell? ⟨s, 2, none⟩ = some (.map (some m)) ∧ wx.cell? ⟨s, 1, none⟩ = some (.slice va n vc) ∧ wx.rangeAt q0 0 (bytesA 32 (shaP q)).toList) (by kernel_rfl) (HS0.out) (fun hHeld => ?_)
 refine tkS (i := 0) (oi := ⟨some 6, Op.move (Operand.tmp 0), 30, _, _, none⟩) (v := .pointer (some ⟨s, 0, none⟩)) rfl (Or.inl ⟨by rfl, fun w hS => by go_simp⟩) hHeld ?_
 refine tkS (i := 1) (oi := ⟨some 7, Op.nilCheck (Operand.tmp 6), 0, _, _, none⟩) (v := .pointer (some ⟨s, 0, none⟩)) rfl (Or.inl ⟨by rfl, fun w hS => by go_simp⟩) hHeld ?_
 refine tkS (i := 2) (oi := ⟨some 8, Op.fieldAddr 62 (Operand.tmp 7) 2, 0, _, _, none⟩) (v := .pointer (some ⟨s, 2, none⟩)) rfl (Or.inl ⟨by rfl, fun w hS => by go_simp⟩) hHeld ?_
 refine tkS (i := 3) (oi := ⟨some 9, Op.load 59 (Operand.tmp 8), 59, _, _, none⟩) (v := .map (some m)) rfl (Or.inl ⟨by rfl, fun w hS => by have h := hS.1; clear hS; go_simp⟩) hHeld ?_
 refine tkS (i := 4) (oi := ⟨some 10, Op.load 38 (Operand.tmp 4), 38, _, _, none⟩) (v := .agg (bytesA 32 (shaP q))) rfl (yieldsIf_loadAj (by rfl) 38 (.tmp 4) rfl q0 0 rfl (bytesA 32 (shaP q)) _ (fun w hS => hS.2.2) Tryd.underlying38 rfl (Tryd.size38B _)) hHeld ?_
 refine tkS (i := 5) (oi := ⟨some 11, Op.move (Operand.tmp 0), 30, _, _, none⟩) (v := .pointer (some ⟨s, 0, none⟩)) rfl (Or.inl ⟨by rfl, fun w hS => by go_simp⟩) hHeld ?_
 refine tkS (i := 6) (oi := ⟨some 12, Op.nilCheck (Operand.tmp 11), 0, _, _, none⟩) (v := .pointer (some ⟨s, 0, none⟩)) rfl (Or.inl ⟨by rfl, fun w hS => by go_simp⟩) hHeld ?_
 refine tkS (i := 7) (oi := ⟨some 13, Op.fieldAddr 62 (Operand.tmp 12) 1, 0, _, _, none⟩) (v := .pointer (some ⟨s, 1, none⟩)) rfl (Or.inl ⟨by rfl, fun w hS => by go_simp⟩) hHeld ?_
 refine tkS (i := 8) (oi := ⟨some 14, Op.load 60 (Operand.tmp 13), 60, _, _, none⟩) (v := .slice va n vc) rfl (Or.inl ⟨by rfl, fun w hS => by have h := hS.2.1; clear hS; go_simp⟩) hHeld ?_
 refine tkS (i := 9) (oi := ⟨some 15, Op.call { callee := Callee.builtin Builtin.len, args := #[Operand.tmp 14], argTypes := #[60] }, 3, _, _, none⟩) (v := .int .i64 (n : Int)) rfl (Or.inl ⟨by rfl, fun w hS => by go_simp⟩) hHeld ?_
 refine wpAnyH_ready (rs := [10]) (by kernel_rfl) (by simp) ?_
 refine AllReadyH.cons (o := ⟨none, Op.mapUpdate 59 (Operand.tmp 9) (Operand.tmp 10) (Operand.tmp 15), 0, _, _, none⟩) rfl (fun K hK => ?_) AllReadyH.nil
 rw [if_pos (by rfl)]
 obtain ⟨w3, hr3, hi3, hg3⟩ := updK A2.out.ix q HK.out n (by rw [List.length_map]; exact HN.out)
 refine wp_upd (.tmp 9) (.tmp 10) (.tmp 15) rfl _ _ _ rfl rfl rfl w3 hr3 ?_
 clear hr3
 have G3 : Keep (Grown w1.drew w3 fun k => k = m) := ⟨hg3⟩
 have I3 := Keep.mk hi3
 clear hi3 hg3
 have H3 : Keep (Blk w3 q0 38 (bytesA 32 (shaP q))) := ⟨G3.out.blk H2.out Hqm.out⟩
 have C3 : Keep (Blk w3 s 62 (sA g (.slice va n vc) m de)) := ⟨G3.out.blk A2.out.bs Hsm.out⟩
 have O3 : Keep (OwnB w3 (.slice va n vc) L) := ⟨A2.out.ol.grown G3.out Hvm.out⟩
 have W3 : Keep (∀ x ∈ L ++ [(q, .slice ra rn rc)], RowAt w3 x.2 x.1 ∧ x.1 ≠ []) := ⟨fun x hx => by
  rcases List.mem_append.1 hx with hx | hx
  ·exact ⟨(A2.out.rows x hx).1.grown G3.out fun k hk _ => (A2.out.ap x hx k hk).2.1, (A2.out.rows x hx).2⟩
  ·rw [List.mem_singleton.1 hx]
   exact ⟨R2.out.grown G3.out fun k hk _ => (HRd.out k hk).2.1, HQ.out⟩⟩
 have AP : Keep (∀ x ∈ L ++ [(q, .slice ra rn rc)], ∀ k, x.2.ownBlock = some k → (k ≠ s ∧ k ≠ m ∧ (.slice va n vc : Value).ownBlock ≠ some k) ∧ k < w.heap.size) := ⟨fun x hx k hk => by
  rcases List.mem_append.1 hx with hx | hx
  ·exact ⟨A2.out.ap x hx k hk, row_lt (HA.out.rows x hx).1 (HA.out.rows x hx).2 k hk⟩
  ·rw [List.mem_singleton.1 hx] at hk
   exact ⟨HRd.out k hk, row_lt HR.out HQ.out k hk⟩⟩
 have L3 : Keep (w1.heap.size ≤ w3.heap.size) := ⟨G3.out.size⟩
 have GW : Keep (Grown w w3 fun k => k = s ∨ k = m ∨ (.slice va n vc : Value).ownBlock = some k) := ⟨(Grown.below D1.out).trans (G3.out.mono fun k _ e => .inr (.inl e))⟩
 refine hK _ _ ⟨C3.out.c 2 rfl, C3.out.c 1 rfl, blk_range H3.out⟩ fun hH3 => ?_
 clear hK HS0 G3 A2 R2 H2
 simp only [Act.put, pqA, pqB, pqC]
 refine wpAnyH_done (by kernel_rfl) ?_ _
 refine hK2 _ _ ?_
 clear Hvm Hqm hHeld hH3
 have C4 : Keep (Blk w3.drew s 62 (sA g (.slice va n vc) m de)) := ⟨C3.out.drew⟩
 have H4 : Keep (Blk w3.drew q0 38 (bytesA 32 (shaP q))) := ⟨H3.out.drew⟩
 have O4 : Keep (OwnB w3.drew (.slice va n vc) L) := ⟨O3.out.below (Below.refl _ _).drew⟩
 have G4 : Keep (Grown w3 w3.drew fun _ => False) := ⟨(Grown.refl _ _).drew⟩
 refine wp_region_held_drew (S := fun wx => wx.rangeAt q0 0 (bytesA 32 (shaP q)).toList) (by kernel_rfl) (blk_range H4.out) (fun hHeld => ?_)
 generalize w3.drew = w4 at *
 refine tkS (i := 0) (oi := ⟨some 16, Op.move (Operand.tmp 0), 30, _, _, none⟩) (v := .pointer (some ⟨s, 0, none⟩)) rfl (Or.inl ⟨by rfl, fun w hS => by go_simp⟩) hHeld ?_
 refine tkS (i := 1) (oi := ⟨some 17, Op.move (Operand.tmp 0), 30, _, _, none⟩) (v := .pointer (some ⟨s, 0, none⟩)) rfl (Or.inl ⟨by rfl, fun w hS => by go_simp⟩) hHeld ?_
 refine tkS (i := 2) (oi := ⟨some 18, Op.nilCheck (Operand.tmp 17), 0, _, _, none⟩) (v := .pointer (some ⟨s, 0, none⟩)) rfl (Or.inl ⟨by rfl, fun w hS => by go_simp⟩) hHeld ?_
 refine tkS (i := 3) (oi := ⟨some 19, Op.fieldAddr 62 (Operand.tmp 18) 1, 0, _, _, none⟩) (v := .pointer (some ⟨s, 1, none⟩)) rfl (Or.inl ⟨by rfl, fun w hS => by go_simp⟩) hHeld ?_
 refine tkS (i := 5) (oi := ⟨some 21, Op.load 38 (Operand.tmp 4), 38, _, _, none⟩) (v := .agg (bytesA 32 (shaP q))) rfl (yieldsIf_loadAj (by rfl) 38 (.tmp 4) rfl q0 0 rfl (bytesA 32 (shaP q)) _ (fun w hS => hS) Tryd.underlying38 rfl (Tryd.size38B _)) hHeld ?_
 refine tkS (i := 6) (oi := ⟨some 22, Op.move (Operand.tmp 2), 41, _, _, none⟩) (v := .slice ra rn rc) rfl (Or.inl ⟨by rfl, fun w hS => by go_simp⟩) hHeld ?_
 refine tkS (i := 7) (oi := ⟨some 23, Op.build 76 #[(0, Operand.tmp 21), (1, Operand.tmp 22)], 76, _, _, none⟩) (v := .agg (bkA q (.slice ra rn rc))) rfl (yieldsIf_bld (by rfl) 76 _ rfl #[(0, .agg (bytesA 32 (shaP q))), (1, .slice ra rn rc)] (by simp [Act.eval]) (.agg (bkA q (.slice ra rn rc))) (fun w => run_bldBk q ra rn rc w)) hHeld ?_
 refine wpAnyH_ready (rs := [4, 8]) (by kernel_rfl) (by simp) ?_
 refine AllReadyH.cons (o := ⟨some 20, Op.load 60 (Operand.tmp 19), 60, _, _, none⟩) rfl (fun K hK => ?_) (AllReadyH.cons (o := ⟨some 24, Op.buildSlice 60 1 #[(0, Operand.tmp 23)], 60, _, _, none⟩) rfl (fun K hK => ?_) AllReadyH.nil)
 all_goals rw [if_pos (by rfl)]
 ·have cl : w4.cell? ⟨s, 1, none⟩ = some (.slice va n vc) := C4.out.c 1 rfl
  refine wp_val (.slice va n vc) (by go_simp) ?_
  clear cl
  refine hK _ _ (blk_range H4.out) fun hL4 => ?_
  clear hK
  simp only [Act.put, pqA, pqB, pqC]
  refine wpAnyH_ready (rs := [8]) (by kernel_rfl) (by simp) ?_
  refine AllReadyH.cons (o := ⟨some 24, Op.buildSlice 60 1 #[(0, Operand.tmp 23)], 60, _, _, none⟩) rfl (fun K hK => ?_) AllReadyH.nil
  rw [if_pos (by rfl)]
  refine wp_bs 60 1 _ rfl #[(0, .agg (bkA q (.slice ra rn rc)))] (by simp [Act.eval]) _ _ (bsBk q ra rn rc w4) ?_
  have hbx := below_new w4 (.cells (bkA q (.slice ra rn rc)) 76)
  have HB5 := Keep.mk (Blk.new w4 76 (bkA q (.slice ra rn rc)))
  have C5 := Keep.mk (C4.out.below hbx C4.out.lt)
  have H5 := Keep.mk (H4.out.below hbx H4.out.lt)
  have O5 := Keep.mk (O4.out.below hbx)
  have G5 : Keep (Grown w3 (w4.alloc (.cells (bkA q (.slice ra rn rc)) 76)) fun _ => False) := ⟨G4.out.trans (Grown.below hbx)⟩
  clear hbx
  generalize w4.alloc (.cells (bkA q (.slice ra rn rc)) 76) = w5 at *
  obtain ⟨g5, hg5⟩ : ∃ z, Keep (z = w4.heap.size) := ⟨_, ⟨rfl⟩⟩
  rw [← hg5.out] at HB5 ⊢
  refine hK _ _ (blk_range H5.out) fun hB5 => ?_
  clear hK
  simp only [Act.put, pqA, pqB, pqC]
  refine wpAnyH_ready (rs := [9]) (by kernel_rfl) (by simp) ?_
  refine AllReadyH.cons (o := ⟨some 25, Op.call { callee := Callee.builtin Builtin.append, args := #[Operand.tmp 20, Operand.tmp 24], argTypes := #[60, 60] }, 60, _, _, none⟩) rfl (fun K hK => ?_) AllReadyH.nil
  rw [if_pos (by rfl)]
  refine wp_appB (.tmp 20) (.tmp 24) rfl (.slice va n vc) L g5 0 1 [(q, .slice ra rn rc)] (fun x hx => by rw [List.mem_singleton.1 hx]; exact ⟨_, _, _, rfl⟩) rfl rfl O5.out (fun j u hu => by rw [Nat.zero_add, HB5.out.cell, ← Array.getElem?_toList]; simpa [bkL] using hu) (by have := HN.out; have := HNb.out; simp only [List.length_singleton]; omega) fun v6 w6 h1 h2 h3 => ?_
  obtain ⟨xa, xc, hv6⟩ := h1.sl
  have hl6 : (L ++ [(q, Value.slice ra rn rc)]).length = n + 1 := by rw [List.length_append, List.length_singleton, ← HN.out]
  rw [hl6] at hv6
  subst hv6
  have O6 := Keep.mk h1
  have G6 := Keep.mk h2
  have M6 := Keep.mk h3
  clear h1 h2 h3 hl6
  have hos : (.slice va n vc : Value).ownBlock ≠ some s := fun e => absurd ((O5.out.typ e).one C5.out.typ) (by decide)
  have hoq : (.slice va n vc : Value).ownBlock ≠ some q0 := fun e => absurd ((O5.out.typ e).one H5.out.typ) (by decide)
  have C6 : Keep (Blk w6 s 62 (sA g (.slice va n vc) m de)) := ⟨G6.out.blk C5.out hos⟩
  have H6 : Keep (Blk w6 q0 38 (bytesA 32 (shaP q))) := ⟨G6.out.blk H5.out hoq⟩
  clear hos hoq
  refine hK _ _ (blk_range H6.out) fun hH6 => ?_
  clear hK
  simp only [Act.put, pqA, pqB, pqC]
  refine tkS (i := 10) (oi := ⟨some 26, Op.nilCheck (Operand.tmp 16), 0, _, _, none⟩) (v := .pointer (some ⟨s, 0, none⟩)) rfl (Or.inl ⟨by rfl, fun w hS => by go_simp⟩) hH6 ?_
  refine tkS (i := 11) (oi := ⟨some 27, Op.fieldAddr 62 (Operand.tmp 26) 1, 0, _, _, none⟩) (v := .pointer (some ⟨s, 1, none⟩)) rfl (Or.inl ⟨by rfl, fun w hS => by go_simp⟩) hH6 ?_
  refine wpAnyH_ready (rs := [12]) (by kernel_rfl) (by simp) ?_
  refine AllReadyH.cons (o := ⟨none, Op.store 60 (Operand.tmp 27) (Operand.tmp 25), 0, _, _, none⟩) rfl (fun K hK => ?_) AllReadyH.nil
  rw [if_pos (by rfl)]
  have f_o := C6.out.frozen 1
  have c_o : w6.cell? ⟨s, 1, none⟩ = some (.slice va n vc) := C6.out.c 1 rfl
  refine wp_cellS (w6.setCell ⟨s, 1, none⟩ (.slice xa (n + 1) xc)) (by go_simp) ?_
  clear f_o c_o
  have hsq : s ≠ q0 := fun e => absurd (C6.out.typ.one (e ▸ H6.out.typ)) (by decide)
  have C7 : Keep (Blk (w6.setCell ⟨s, 1, none⟩ (.slice xa (n + 1) xc)) s 62 (sA g (.slice xa (n + 1) xc) m de)) := ⟨C6.out.set 1 _⟩
  have H7 : Keep (Blk (w6.setCell ⟨s, 1, none⟩ (.slice xa (n + 1) xc)) q0 38 (bytesA 32 (shaP q))) := ⟨H6.out.set_ne (Ne.symm hsq) _⟩
  have G7 : Keep (Grown w6 (w6.setCell ⟨s, 1, none⟩ (.slice xa (n + 1) xc)) fun k => k = s) := ⟨Grown.setCell w6 s 1 _ fun _ => rfl⟩
  clear hsq
  generalize w6.setCell ⟨s, 1, none⟩ (.slice xa (n + 1) xc) = w7 at *
  refine hK _ _ (blk_range H7.out) fun hS7 => ?_
  clear hK
  simp only [Act.put, pqA, pqB, pqC]
  refine wpAnyH_done (by kernel_rfl) ?_ _
  go_end0
  have GT : Grown w3 w7 fun k => k = s ∨ (.slice va n vc : Value).ownBlock = some k := ((G5.out.mono fun k _ e => e.elim).trans (G6.out.mono fun k _ e => .inr e)).trans (G7.out.mono fun k _ e => .inl e)
  have hty : ∀ k, (k = s ∨ (.slice va n vc : Value).ownBlock = some k) → Typ w3 k 62 ∨ Typ w3 k 76 := fun k hk => by
   rcases hk with rfl | hk
   ·exact .inl C3.out.typ
   ·exact .inr (O3.out.typ hk)
  have hgs : ∀ k, (.slice xa (n + 1) xc : Value).ownBlock = some k → k ≠ s := fun k hk e => by
   subst e
   exact absurd ((O6.out.typ hk).one C6.out.typ) (by decide)
  have hnew : ∀ k, (.slice xa (n + 1) xc : Value).ownBlock = some k → (.slice va n vc : Value).ownBlock = some k ∨ w.heap.size ≤ k := fun k hk => by
   rcases M6.out with e | ⟨j, e, hj⟩
   ·rw [hk] at e; exact .inl e.symm
   ·rw [hk] at e
    right
    have := Option.some.inj e
    have := G5.out.size
    have := L3.out
    have := D1.out.size
    have hd : w1.drew.heap.size = w1.heap.size := rfl
    omega
  refine ⟨rfl, .slice xa (n + 1) xc, ⟨C7.out, ?_, O6.out.grown G7.out hgs, fun x hx => ⟨(W3.out x hx).1.grown GT fun b hb hlt e => ?_, (W3.out x hx).2⟩, fun x hx k hk => ⟨(AP.out x hx k hk).1.1, (AP.out x hx k hk).1.2.1, fun e => ?_⟩⟩, GW.out.next GT fun k _ e => ?_, hnew⟩
  ·rw [List.map_append]
   exact I3.out.grown GT fun e => by
    rcases hty m e with h | h
    ·exact I3.out.ne h rfl
    ·exact I3.out.ne h rfl
  ·rcases e with e | e
   ·exact (AP.out x hx b hb).1.1 e
   ·exact (AP.out x hx b hb).1.2.2 e
  ·rcases hnew k e with h | h
   ·exact (AP.out x hx k hk).1.2.2 h
   ·have := (AP.out x hx k hk).2
    omega
  ·rcases e with e | e
   ·exact .inl e
   ·exact .inr (.inr e)
 ·refine wp_bs 60 1 _ rfl #[(0, .agg (bkA q (.slice ra rn rc)))] (by simp [Act.eval]) _ _ (bsBk q ra rn rc w4) ?_
  have hbx := below_new w4 (.cells (bkA q (.slice ra rn rc)) 76)
  have HB5 := Keep.mk (Blk.new w4 76 (bkA q (.slice ra rn rc)))
  have C5 := Keep.mk (C4.out.below hbx C4.out.lt)
  have H5 := Keep.mk (H4.out.below hbx H4.out.lt)
  have O5 := Keep.mk (O4.out.below hbx)
  have G5 : Keep (Grown w3 (w4.alloc (.cells (bkA q (.slice ra rn rc)) 76)) fun _ => False) := ⟨G4.out.trans (Grown.below hbx)⟩
  clear hbx
  generalize w4.alloc (.cells (bkA q (.slice ra rn rc)) 76) = w5 at *
  obtain ⟨g5, hg5⟩ : ∃ z, Keep (z = w4.heap.size) := ⟨_, ⟨rfl⟩⟩
  rw [← hg5.out] at HB5 ⊢
  refine hK _ _ (blk_range H5.out) fun hB5 => ?_
  clear hK
  simp only [Act.put, pqA, pqB, pqC]
  refine wpAnyH_ready (rs := [4]) (by kernel_rfl) (by simp) ?_
  refine AllReadyH.cons (o := ⟨some 20, Op.load 60 (Operand.tmp 19), 60, _, _, none⟩) rfl (fun K hK => ?_) AllReadyH.nil
  rw [if_pos (by rfl)]
  have cl : w5.cell? ⟨s, 1, none⟩ = some (.slice va n vc) := C5.out.c 1 rfl
  refine wp_val (.slice va n vc) (by go_simp) ?_
  clear cl
  refine hK _ _ (blk_range H5.out) fun hL5 => ?_
  clear hK
  simp only [Act.put, pqA, pqB, pqC]
  refine wpAnyH_ready (rs := [9]) (by kernel_rfl) (by simp) ?_
  refine AllReadyH.cons (o := ⟨some 25, Op.call { callee := Callee.builtin Builtin.append, args := #[Operand.tmp 20, Operand.tmp 24], argTypes := #[60, 60] }, 60, _, _, none⟩) rfl (fun K hK => ?_) AllReadyH.nil
  rw [if_pos (by rfl)]
  refine wp_appB (.tmp 20) (.tmp 24) rfl (.slice va n vc) L g5 0 1 [(q, .slice ra rn rc)] (fun x hx => by rw [List.mem_singleton.1 hx]; exact ⟨_, _, _, rfl⟩) rfl rfl O5.out (fun j u hu => by rw [Nat.zero_add, HB5.out.cell, ← Array.getElem?_toList]; simpa [bkL] using hu) (by have := HN.out; have := HNb.out; simp only [List.length_singleton]; omega) fun v6 w6 h1 h2 h3 => ?_
  obtain ⟨xa, xc, hv6⟩ := h1.sl
  have hl6 : (L ++ [(q, Value.slice ra rn rc)]).length = n + 1 := by rw [List.length_append, List.length_singleton, ← HN.out]
  rw [hl6] at hv6
  subst hv6
  have O6 := Keep.mk h1
  have G6 := Keep.mk h2
  have M6 := Keep.mk h3
  clear h1 h2 h3 hl6
  have hos : (.slice va n vc : Value).ownBlock ≠ some s := fun e => absurd ((O5.out.typ e).one C5.out.typ) (by decide)
  have hoq : (.slice va n vc : Value).ownBlock ≠ some q0 := fun e => absurd ((O5.out.typ e).one H5.out.typ) (by decide)
  have C6 : Keep (Blk w6 s 62 (sA g (.slice va n vc) m de)) := ⟨G6.out.blk C5.out hos⟩
  have H6 : Keep (Blk w6 q0 38 (bytesA 32 (shaP q))) := ⟨G6.out.blk H5.out hoq⟩
  clear hos hoq
  refine hK _ _ (blk_range H6.out) fun hH6 => ?_
  clear hK
  simp only [Act.put, pqA, pqB, pqC]
  refine tkS (i := 10) (oi := ⟨some 26, Op.nilCheck (Operand.tmp 16), 0, _, _, none⟩) (v := .pointer (some ⟨s, 0, none⟩)) rfl (Or.inl ⟨by rfl, fun w hS => by go_simp⟩) hH6 ?_
  refine tkS (i := 11) (oi := ⟨some 27, Op.fieldAddr 62 (Operand.tmp 26) 1, 0, _, _, none⟩) (v := .pointer (some ⟨s, 1, none⟩)) rfl (Or.inl ⟨by rfl, fun w hS => by go_simp⟩) hH6 ?_
  refine wpAnyH_ready (rs := [12]) (by kernel_rfl) (by simp) ?_
  refine AllReadyH.cons (o := ⟨none, Op.store 60 (Operand.tmp 27) (Operand.tmp 25), 0, _, _, none⟩) rfl (fun K hK => ?_) AllReadyH.nil
  rw [if_pos (by rfl)]
  have f_o := C6.out.frozen 1
  have c_o : w6.cell? ⟨s, 1, none⟩ = some (.slice va n vc) := C6.out.c 1 rfl
  refine wp_cellS (w6.setCell ⟨s, 1, none⟩ (.slice xa (n + 1) xc)) (by go_simp) ?_
  clear f_o c_o
  have hsq : s ≠ q0 := fun e => absurd (C6.out.typ.one (e ▸ H6.out.typ)) (by decide)
  have C7 : Keep (Blk (w6.setCell ⟨s, 1, none⟩ (.slice xa (n + 1) xc)) s 62 (sA g (.slice xa (n + 1) xc) m de)) := ⟨C6.out.set 1 _⟩
  have H7 : Keep (Blk (w6.setCell ⟨s, 1, none⟩ (.slice xa (n + 1) xc)) q0 38 (bytesA 32 (shaP q))) := ⟨H6.out.set_ne (Ne.symm hsq) _⟩
  have G7 : Keep (Grown w6 (w6.setCell ⟨s, 1, none⟩ (.slice xa (n + 1) xc)) fun k => k = s) := ⟨Grown.setCell w6 s 1 _ fun _ => rfl⟩
  clear hsq
  generalize w6.setCell ⟨s, 1, none⟩ (.slice xa (n + 1) xc) = w7 at *
  refine hK _ _ (blk_range H7.out) fun hS7 => ?_
  clear hK
  simp only [Act.put, pqA, pqB, pqC]
  refine wpAnyH_done (by kernel_rfl) ?_ _
  go_end0
  have GT : Grown w3 w7 fun k => k = s ∨ (.slice va n vc : Value).ownBlock = some k := ((G5.out.mono fun k _ e => e.elim).trans (G6.out.mono fun k _ e => .inr e)).trans (G7.out.mono fun k _ e => .inl e)
  have hty : ∀ k, (k = s ∨ (.slice va n vc : Value).ownBlock = some k) → Typ w3 k 62 ∨ Typ w3 k 76 := fun k hk => by
   rcases hk with rfl | hk
   ·exact .inl C3.out.typ
   ·exact .inr (O3.out.typ hk)
  have hgs : ∀ k, (.slice xa (n + 1) xc : Value).ownBlock = some k → k ≠ s := fun k hk e => by
   subst e
   exact absurd ((O6.out.typ hk).one C6.out.typ) (by decide)
  have hnew : ∀ k, (.slice xa (n + 1) xc : Value).ownBlock = some k → (.slice va n vc : Value).ownBlock = some k ∨ w.heap.size ≤ k := fun k hk => by
   rcases M6.out with e | ⟨j, e, hj⟩
   ·rw [hk] at e; exact .inl e.symm
   ·rw [hk] at e
    right
    have := Option.some.inj e
    have := G5.out.size
    have := L3.out
    have := D1.out.size
    have hd : w1.drew.heap.size = w1.heap.size := rfl
    omega
  refine ⟨rfl, .slice xa (n + 1) xc, ⟨C7.out, ?_, O6.out.grown G7.out hgs, fun x hx => ⟨(W3.out x hx).1.grown GT fun b hb hlt e => ?_, (W3.out x hx).2⟩, fun x hx k hk => ⟨(AP.out x hx k hk).1.1, (AP.out x hx k hk).1.2.1, fun e => ?_⟩⟩, GW.out.next GT fun k _ e => ?_, hnew⟩
  ·rw [List.map_append]
   exact I3.out.grown GT fun e => by
    rcases hty m e with h | h
    ·exact I3.out.ne h rfl
    ·exact I3.out.ne h rfl
  ·rcases e with e | e
   ·exact (AP.out x hx b hb).1.1 e
   ·exact (AP.out x hx b hb).1.2.2 e
  ·rcases hnew k e with h | h
   ·exact (AP.out x hx k hk).1.2.2 h
   ·have := (AP.out x hx k hk).2
    omega
  ·rcases e with e | e
   ·exact .inl e
   ·exact .inr (.inr e)
set_option maxRecDepth 8000 in
theorem keep_same (g d n pc : Nat) (pa : Option Addr) (pr sz : Int) (la : Bool) (w : World) (hJ : Blk w g 81 (jA d (.slice pa n pc) pr sz la false)) : Calls Tryd.prog 18 #[ptr g, .int .i64 (n : Int)] w fun e w' => e = .returned (.int .i64 0) ∧ w' = w := by
 have HJ := Keep.mk hJ
 clear hJ
 go_enter Tryd.func18, Tryd.ntmps18
 have c5 := HJ.out.c 5 (by rfl : (jA d (.slice pa n pc) pr sz la false)[5]? = some (.bool false))
 have c1 := HJ.out.c 1 (by rfl : (jA d (.slice pa n pc) pr sz la false)[1]? = some (.slice pa n pc))
 have hn0 : ¬ (n : Int) < 0 := by omega
 have hn1 : ¬ (n : Int) < (n : Int) := by omega
 refine wp_seq_k fun K1 hK1 => rgn ?_
 refine VlS (.int .i64 0) ?_
 refine WL.nil (hK1 _ _ ?_)
 refine wp_seq_k fun K2 hK2 => ?_
 refine wp_block ?_
 refine wp_seq_k fun K3 hK3 => rgn ?_
 refine VlS (.pointer (some ⟨g, 0, none⟩)) ?_
 refine VlS (.pointer (some ⟨g, 0, none⟩)) ?_
 refine VlS (.pointer (some ⟨g, 5, none⟩)) ?_
 refine VlS (.bool false) ?_
 refine VlS (.bool false) ?_
 refine WL.nil (hK3 _ _ ?_)
 refine wp_cond_false rfl ?_
 refine wp_seq_k fun K4 hK4 => rgn ?_
 refine VlS (.int .i64 (n : Int)) ?_
 refine VlS (.bool false) ?_
 refine VlS (.bool false) ?_
 refine VlS (.int .i64 (n : Int)) ?_
 refine VlS (.pointer (some ⟨g, 0, none⟩)) ?_
 refine VlS (.pointer (some ⟨g, 0, none⟩)) ?_
 refine VlS (.pointer (some ⟨g, 1, none⟩)) ?_
 refine VlS (.slice pa n pc) ?_
 refine VlS (.int .i64 (n : Int)) ?_
 refine VlS (.bool false) ?_
 refine VlS (.bool false) ?_
 refine VlS (.bool false) ?_
 refine WL.nil (hK4 _ _ ?_)
 refine wp_cond_false rfl ?_
 refine wp_seq_k fun K5 hK5 => rgn ?_
 refine VlS (.int .i64 (n : Int)) ?_
 refine VlS (.pointer (some ⟨g, 0, none⟩)) ?_
 refine VlS (.pointer (some ⟨g, 0, none⟩)) ?_
 refine VlS (.pointer (some ⟨g, 1, none⟩)) ?_
 refine VlS (.slice pa n pc) ?_
 refine VlS (.int .i64 (n : Int)) ?_
 refine VlS (.bool true) ?_
 refine VlS (.bool true) ?_
 refine WL.nil (hK5 _ _ ?_)
 refine wp_cond_true rfl ?_
 refine wp_seq_k fun K6 hK6 => rgn ?_
 refine VlS (.int .i64 0) ?_
 refine WL.nil (hK6 _ _ ?_)
 refine wp_ret ?_
 go_ret
 exact ⟨rfl, rfl⟩
set_option maxRecDepth 8000 in
theorem hacts_any (h p : Nat) (x : Int) (w : World) (c0 : w.cell? ⟨h, 0, none⟩ = some (ptr p)) (c5 : w.cell? ⟨p, 5, none⟩ = some (.int .i64 x)) : Calls Tryd.prog 13 #[ptr h] w fun e w' => e = .returned (.int .i64 x) ∧ w' = w := by
 go_enter Tryd.func13, Tryd.ntmps13
 refine wp_seq_k fun K1 hK1 => rgn ?_
 refine VlS (.int .i64 0) ?_
 refine WL.nil (hK1 _ _ ?_)
 refine wp_seq_k fun K2 hK2 => rgn ?_
 refine VlS (.pointer (some ⟨h, 0, none⟩)) ?_
 refine VlS (.pointer (some ⟨h, 0, none⟩)) ?_
 refine VlS (.pointer (some ⟨h, 0, none⟩)) ?_
 refine VlS (.pointer (some ⟨p, 0, none⟩)) ?_
 refine VlS (.pointer (some ⟨p, 0, none⟩)) ?_
 refine VlS (.pointer (some ⟨p, 5, none⟩)) ?_
 refine VlS (.int .i64 x) ?_
 refine VlS (.int .i64 x) ?_
 refine WL.nil (hK2 _ _ ?_)
 refine wp_ret ?_
 go_ret
 exact ⟨rfl, rfl⟩
end Go.Proofs.YtlggejehaonkcaaDoor
