import Derived.Test.YtennogmeeefopaaDoorA15
import Derived.Test.YtennogmeeefopaaDoorA12
import Derived.Deep.RegionHeld3
import Derived.Deep.MidRow
import Derived.Lib.Small
import Derived.ArgAppend
import Derived.Lib.ConvBytes
namespace Go.Proofs.YtennogmeeefopaaDoor
open Go.RowKit
set_option linter.unusedSimpArgs false
set_option linter.unusedVariables false

set_option maxRecDepth 8000 in
set_option maxHeartbeats 2000000 in
theorem japp_same (g d p : Nat) (v : Value) (l : List Int) (D : DV) (V : JV) (la : Bool) (sure : Nat) (N : Nat → Prop) (w : World) (hT : Tab w) (hDN : JDN w g d p D V la false N) (hNl : ∀ k, N k → k < w.heap.size) (hd : ¬ N d) (hX : JX D V la sure) (hA : D.acts ≤ 4611686018427380000) (hR : RowAt w v l) (hRn : l ≠ [] → ∀ k, v.ownBlock = some k → ¬ N k) (hBy : Byts l) (m : Nat) (hPo : PayOk l) (hpr0 : V.pr = (m : Int)) (hc : ¬ (0 < V.sz ∧ 65536 < V.sz + (16 + (l.length : Int)))) : Calls Tryd.prog 24 #[ptr g, v] w (JAppPost D V la l sure g d p N w) := by
 obtain ⟨hDk, vf, cs, vp, hD, hJ, hP, hN⟩ := hDN
 obtain ⟨ba, bc, rfl⟩ := row_form hR
 have HT := Keep.mk hT
 have HDk := Keep.mk hDk
 have HD := Keep.mk hD
 have HJ := Keep.mk hJ
 have HP := Keep.mk hP
 have HN := Keep.mk hN
 have HNl := Keep.mk hNl
 have Hd := Keep.mk hd
 have HX := Keep.mk hX
 have HA := Keep.mk hA
 have HR := Keep.mk hR
 have HRn := Keep.mk hRn
 have HBy := Keep.mk hBy
 have HZ : Keep (0 < w.heap.size) := ⟨Nat.lt_of_le_of_lt (Nat.zero_le _) hDk.lt⟩
 obtain ⟨hm256, f, s, hf, hsz, -⟩ := hX.ji.last hpr0
 obtain ⟨i, hfi, hfn, hfd⟩ := fnd_is hX.ji.ok.srt hf
 have hfz := hX.ji.siz f (List.mem_of_getElem? hfi)
 have HPo := Keep.mk hPo
 have hpr := Keep.mk hpr0
 have Hm := Keep.mk hm256
 have HFi := Keep.mk hfi
 have HFn := Keep.mk hfn
 have HFd := Keep.mk hfd
 have HFz : Keep (V.sz = (f.bs.length : Int) ∧ f.bs.length ≤ 1114128) := ⟨hsz, hfz⟩
 have Hc := Keep.mk hc
 clear hPo hpr0 hm256 hf hsz hfi hfn hfd hfz hc
 clear hT hDk hD hJ hP hN hNl hd hX hA hR hRn hBy
 go_enter Tryd.func24, Tryd.ntmps24
 have c5 := HJ.out.c 5 (by rfl : (jA d vp V.pr V.sz la false)[5]? = some (.bool false))
 have hl0 : ¬ (l.length : Int) = 0 := by have := HPo.out.1; omega
 have hl1 : ¬ (1048576 : Int) < (l.length : Int) := by have := HPo.out.2; omega
 have hln : ¬ l.length = 0 := by have := HPo.out.1; omega
 have hwl : IntKind.i64.wrap (16 + (l.length : Int)) = 16 + (l.length : Int) := by rw [IntKind.wrap_i64]; have := HPo.out.2; omega
 refine wp_seq_k fun K1 hK1 => rgn ?_
 refine VlS (.int .i64 0) ?_
 refine WL.nil (hK1 _ _ ?_)
 refine wp_seq_k fun K2 hK2 => ?_
 refine wp_block ?_
 refine wp_seq_k fun K3 hK3 => rgn ?_
 refine VlS (.pointer (some ⟨g, 0, none⟩)) ?_
 refine VlS (.pointer (some ⟨g, 0, none⟩)) ?_
 refine VlS (.pointer (some ⟨g, 5, none⟩)) ?_
 refine VlS (.bool false) ?_
 refine VlS (.bool false) ?_
 refine WL.nil (hK3 _ _ ?_)
 refine wp_cond_false rfl ?_
 refine wp_seq_k fun K4 hK4 => rgn ?_
 refine VlS (.slice ba l.length bc) ?_
 refine VlS (.int .i64 (l.length : Int)) ?_
 refine VlS (.bool false) ?_
 refine VlS (.bool false) ?_
 refine WL.nil (hK4 _ _ ?_)
 refine wp_cond_false rfl ?_
 refine wp_seq_k fun K5 hK5 => rgn ?_
 refine VlS (.slice ba l.length bc) ?_
 refine VlS (.int .i64 (l.length : Int)) ?_
 refine VlS (.bool false) ?_
 refine VlS (.bool false) ?_
 refine WL.nil (hK5 _ _ ?_)
 refine wp_cond_false rfl ?_
 refine wp_skip ?_
 refine hK2 _ _ ?_
 refine wp_seq_k fun K6 hK6 => rgn ?_
 refine VlS (.pointer (some ⟨g, 0, none⟩)) ?_
 refine VlS (.slice ba l.length bc) ?_
 refine VlS (.int .i64 (l.length : Int)) ?_
 refine VlS (.int .i64 (16 + (l.length : Int))) ?_
 clear c5 hl0 hl1 hln hwl
 have hnx := next_any g d m vp V.sz (16 + (l.length : Int)) la false w (by rw [← hpr.out]; exact HJ.out) ⟨by have := Hm.out; omega, by have := HFz.out; omega, by have := HFz.out; omega, by omega, by have := HPo.out.2; omega⟩
 rw [if_neg Hc.out] at hnx
 refine WL.callF (by kernel_rfl) 44 _ _ rfl Tryd.in44 #[ptr g, .int .i64 (16 + (l.length : Int))] (by simp [Act.eval]) ?_
 refine (hnx).mono ?_
 rintro e w1 ⟨rfl, hb1⟩
 refine ⟨_, rfl, ?_⟩
 have B1 := Keep.mk hb1
 clear hb1 hnx
 obtain ⟨z, hz⟩ : ∃ z : Int, Keep (z = (m : Int)) := ⟨_, ⟨rfl⟩⟩
 rw [← hz.out]
 simp only [Act.put, pqA, pqB, pqC]
 refine WL.new (by kernel_rfl) 79 rfl _ Tryd.newPl ?_
 have HQ0 := Keep.mk (Blk.new w1 79 #[.int .i64 0, .int .i64 0])
 have hbx := below_new w1 (.cells #[.int .i64 0, .int .i64 0] 79)
 have B2 : Keep (Below w.heap.size w (w1.alloc (.cells #[.int .i64 0, .int .i64 0] 79))) := ⟨B1.out.trans (hbx.mono B1.out.size)⟩
 clear hbx
 change WL _ _ _ _ _ (w1.alloc (.cells #[.int .i64 0, .int .i64 0] 79))
 generalize w1.alloc (.cells #[.int .i64 0, .int .i64 0] 79) = w2 at *
 obtain ⟨q, hq⟩ : ∃ p, Keep (p = w1.heap.size) := ⟨_, ⟨rfl⟩⟩
 rw [← hq.out] at HQ0 ⊢
 have hqw : Keep (w.heap.size ≤ q) := ⟨by rw [hq.out]; exact B1.out.size⟩
 simp only [Act.put, pqA, pqB, pqC]
 refine WL.storeR (by kernel_rfl) 79 (.tmp 5) (.tmp 25) rfl q #[.int .i64 z, .int .i64 V.sz] rfl rfl 79 #[.int .i64 0, .int .i64 0] HQ0.out (by kernel_rfl) rfl (by kernel_rfl) ?_
 have HQ := Keep.mk (HQ0.out.setRow #[.int .i64 z, .int .i64 V.sz])
 have B3 : Keep (Below w.heap.size w (w2.setRow q #[.int .i64 z, .int .i64 V.sz])) := ⟨below_setRow B2.out hqw.out _⟩
 clear HQ0 B1 B2 hq
 generalize w2.setRow q #[.int .i64 z, .int .i64 V.sz] = w3 at *
 have q0 := HQ.out.c 0 (by rfl : (#[.int .i64 z, .int .i64 V.sz] : Array Value)[0]? = some (.int .i64 z))
 have J3 := Keep.mk (HJ.out.below B3.out HJ.out.lt)
 have hm256 : ¬ z = 256 := by have := Hm.out; have := hz.out; omega
 have hmn : ¬ z = -1 := by have := hz.out; omega
 simp only [Act.put]
 refine WL.nil (hK6 _ _ ?_)
 refine wp_seq_k fun K7 hK7 => ?_
 refine wp_seq_k fun K8 hK8 => rgn ?_
 refine VlS (.pointer (some ⟨q, 0, none⟩)) ?_
 refine VlS (.int .i64 z) ?_
 refine VlS (.bool false) ?_
 refine WL.nil (hK8 _ _ ?_)
 refine wp_cond_false rfl ?_
 refine wp_skip ?_
 refine hK7 _ _ ?_
 refine wp_seq_k fun K9 hK9 => ?_
 refine wp_seq_k fun K10 hK10 => ?_
 clear q0
 have J4 : Keep (Blk w3.drew g 61 (jA d vp V.pr V.sz la false)) := ⟨J3.out.drew⟩
 have Q4 : Keep (Blk w3.drew q 79 #[.int .i64 z, .int .i64 V.sz]) := ⟨HQ.out.drew⟩
 have B4 : Keep (Below w.heap.size w w3.drew) := ⟨B3.out.drew⟩
 clear J3 HQ B3
 refine wp_region_held_drew (S := fun wx => wx.cell? ⟨g, 2, none⟩ = some (.int .i64 z) ∧ wx.cell? ⟨q, 0, none⟩ = some (.int .i64 z)) (by kernel_rfl) ⟨by rw [hz.out, ← hpr.out]; exact J4.out.c 2 rfl, Q4.out.c 0 rfl⟩ (fun hHeld => ?_)
 generalize w3.drew = w4 at *
 refine tkS (i := 0) (oi := ⟨some 29, Op.move (Operand.tmp 0), 22, _, _, none⟩) (v := .pointer (some ⟨g, 0, none⟩)) rfl (Or.inl ⟨by rfl, fun w hS => by obtain ⟨hS1, hS2⟩ := hS; go_simp⟩) hHeld ?_
 refine tkS (i := 1) (oi := ⟨some 30, Op.nilCheck (Operand.tmp 29), 0, _, _, none⟩) (v := .pointer (some ⟨g, 0, none⟩)) rfl (Or.inl ⟨by rfl, fun w hS => by obtain ⟨hS1, hS2⟩ := hS; go_simp⟩) hHeld ?_
 refine tkS (i := 2) (oi := ⟨some 31, Op.fieldAddr 61 (Operand.tmp 30) 2, 0, _, _, none⟩) (v := .pointer (some ⟨g, 2, none⟩)) rfl (Or.inl ⟨by rfl, fun w hS => by obtain ⟨hS1, hS2⟩ := hS; go_simp⟩) hHeld ?_
 refine tkS (i := 3) (oi := ⟨some 32, Op.load 3 (Operand.tmp 31), 3, _, _, none⟩) (v := .int .i64 z) rfl (Or.inl ⟨by rfl, fun w hS => by obtain ⟨hS1, hS2⟩ := hS; go_simp⟩) hHeld ?_
 refine tkS (i := 4) (oi := ⟨some 33, Op.binOp BinOp.neq 3 (Operand.tmp 32) (Operand.const (Value.int IntKind.i64 (-1))) 3, 4, _, _, none⟩) (v := .bool true) rfl (Or.inl ⟨by rfl, fun w hS => by obtain ⟨hS1, hS2⟩ := hS; go_simp⟩) hHeld ?_
 refine tkS (i := 5) (oi := ⟨some 34, Op.move (Operand.tmp 33), 4, _, _, none⟩) (v := .bool true) rfl (Or.inl ⟨by rfl, fun w hS => by obtain ⟨hS1, hS2⟩ := hS; go_simp⟩) hHeld ?_
 refine tkS (i := 6) (oi := ⟨some 35, Op.fieldAddr 79 (Operand.tmp 5) 0, 0, _, _, some (5, true)⟩) (v := .pointer (some ⟨q, 0, none⟩)) rfl (Or.inl ⟨by rfl, fun w hS => by obtain ⟨hS1, hS2⟩ := hS; go_simp⟩) hHeld ?_
 refine tkS (i := 7) (oi := ⟨some 36, Op.load 3 (Operand.tmp 35), 3, _, _, some (5, true)⟩) (v := .int .i64 z) rfl (Or.inl ⟨by rfl, fun w hS => by obtain ⟨hS1, hS2⟩ := hS; go_simp⟩) hHeld ?_
 refine tkS (i := 8) (oi := ⟨some 37, Op.move (Operand.tmp 0), 22, _, _, some (5, true)⟩) (v := .pointer (some ⟨g, 0, none⟩)) rfl (Or.inl ⟨by rfl, fun w hS => by obtain ⟨hS1, hS2⟩ := hS; go_simp⟩) hHeld ?_
 refine tkS (i := 9) (oi := ⟨some 38, Op.nilCheck (Operand.tmp 37), 0, _, _, some (5, true)⟩) (v := .pointer (some ⟨g, 0, none⟩)) rfl (Or.inl ⟨by rfl, fun w hS => by obtain ⟨hS1, hS2⟩ := hS; go_simp⟩) hHeld ?_
 refine tkS (i := 10) (oi := ⟨some 39, Op.fieldAddr 61 (Operand.tmp 38) 2, 0, _, _, some (5, true)⟩) (v := .pointer (some ⟨g, 2, none⟩)) rfl (Or.inl ⟨by rfl, fun w hS => by obtain ⟨hS1, hS2⟩ := hS; go_simp⟩) hHeld ?_
 refine tkS (i := 11) (oi := ⟨some 40, Op.load 3 (Operand.tmp 39), 3, _, _, some (5, true)⟩) (v := .int .i64 z) rfl (Or.inl ⟨by rfl, fun w hS => by obtain ⟨hS1, hS2⟩ := hS; go_simp⟩) hHeld ?_
 refine tkS (i := 12) (oi := ⟨some 41, Op.binOp BinOp.neq 3 (Operand.tmp 36) (Operand.tmp 40) 3, 4, _, _, some (5, true)⟩) (v := .bool false) rfl (Or.inl ⟨by rfl, fun w hS => by obtain ⟨hS1, hS2⟩ := hS; go_simp⟩) hHeld ?_
 refine tkS (i := 13) (oi := ⟨some 42, Op.pick (Operand.tmp 34) (Operand.tmp 41) (Operand.const (Value.bool false)), 4, _, _, none⟩) (v := .bool false) rfl (Or.inl ⟨by rfl, fun w hS => by obtain ⟨hS1, hS2⟩ := hS; go_simp⟩) hHeld ?_
 refine wpAnyH_done (by kernel_rfl) ?_ _
 refine hK10 _ _ ?_
 refine wp_cond_false rfl ?_
 refine wp_skip ?_
 refine hK9 _ _ ?_
 rw [hz.out] at Q4
 have hfz := HFz.out
 have hc := Hc.out
 have hpo := HPo.out
 obtain ⟨n1, n2⟩ := HX.out.ji.app (i := i) (f := f) (p := l) HX.out.su hpr.out HFi.out HFn.out HPo.out HBy.out (by have h1 := hfz.1; have h2 := hfz.2; have h3 := hpo.2; omega)
 have hAp : ∀ (wx : World) (v : Value), Blk wx d 75 #[ptr p] → DskAt wx p vf cs D → RowAt wx v (fr l) → (∀ k, v.ownBlock = some k → k ≠ p) → Calls Tryd.prog 45 #[ptr d, .string (nmS m), v] wx fun e w' => e = .returned (.int .i64 (pw D)) ∧ ∃ vf' cs', DskAt w' p vf' cs' (D.appIs i f (fr l)) ∧ Grown wx w' (DskS p vf cs) ∧ ∀ k, DskS p vf' cs' k → DskS p vf cs k ∨ wx.heap.size ≤ k := fun wx v h1 h2 h3 h4 =>
  app_is d p i (nmS m) v vf (fr l) cs D f wx h1 h2 HX.out.out (nm_rgt (by have := Hm.out; omega)) HFd.out HFi.out (HX.out.ji.ok.at HFi.out).2.2 (by rw [h2.fcs.len]; exact HX.out.ji.ok.len) ⟨(HX.out.ji.ok.at HFi.out).1, by rw [HX.out.ji.room]; omega, by rw [HX.out.ji.room]; omega, by rw [HX.out.ji.room, HX.out.ji.ok.used, fr_len]; have := HX.out.ji.ok.big; have := HPo.out.2; omega⟩ ⟨HX.out.ji.ok.acts, by have := HA.out; omega⟩ ⟨by have := HX.out.ji.ok.fuse; omega, HX.out.ji.ok.fuse.2⟩ h3
 exact japp_tail (k := m) (a := V.sz) (D0 := D) (D := D) (DA := D.appIs i f (fr l)) (V' := V.app m l) (HT.out.below B4.out HZ.out) (Grown.below B4.out) J4.out (HP.out.grown (Grown.below (S := fun _ => False) B4.out) fun _ _ h => h) HDk.out (HD.out.below B4.out) HN.out HNl.out Hd.out Q4.out hqw.out (HR.out.below B4.out) Hm.out (by omega) HPo.out (by have := HX.out.ji.few; omega) hAp (by show D.acts ≤ D.acts + 1 ∧ D.acts + 1 ≤ D.acts + 300; omega) ⟨rfl, rfl, rfl, rfl⟩ (fun hfu => ⟨n1, n2, (fun h => by cases h), (fun _ => by show (0 : Int) ≤ (m : Int); omega), by rw [← HX.out.out]; exact (act_on hfu).1⟩) (n1.cr n2)
set_option maxRecDepth 8000 in
set_option maxHeartbeats 4000000 in
theorem japp_next (g d p : Nat) (v : Value) (l : List Int) (D : DV) (V : JV) (la : Bool) (sure : Nat) (N : Nat → Prop) (w : World) (hT : Tab w) (hDN : JDN w g d p D V la false N) (hNl : ∀ k, N k → k < w.heap.size) (hd : ¬ N d) (hX : JX D V la sure) (hA : D.acts ≤ 4611686018427380000) (hR : RowAt w v l) (hRn : l ≠ [] → ∀ k, v.ownBlock = some k → ¬ N k) (hBy : Byts l) (m : Nat) (h0 : ¬ N 0) (hPo : PayOk l) (hpr0 : V.pr = (m : Int)) (hc : 0 < V.sz ∧ 65536 < V.sz + (16 + (l.length : Int))) : Calls Tryd.prog 24 #[ptr g, v] w (JAppPost D V la l sure g d p N w) := by
 obtain ⟨hDk, vf, cs, vp, hD, hJ, hP, hN⟩ := hDN
 obtain ⟨ba, bc, rfl⟩ := row_form hR
 have HT := Keep.mk hT
 have HDk := Keep.mk hDk
 have HD := Keep.mk hD
 have HJ := Keep.mk hJ
 have HP := Keep.mk hP
 have HN := Keep.mk hN
 have HNl := Keep.mk hNl
 have Hd := Keep.mk hd
 have HX := Keep.mk hX
 have HA := Keep.mk hA
 have HR := Keep.mk hR
 have HRn := Keep.mk hRn
 have HBy := Keep.mk hBy
 have HZ : Keep (0 < w.heap.size) := ⟨Nat.lt_of_le_of_lt (Nat.zero_le _) hDk.lt⟩
 obtain ⟨hm256, f, s, hf, hsz, -⟩ := hX.ji.last hpr0
 obtain ⟨i, hfi, hfn, hfd⟩ := fnd_is hX.ji.ok.srt hf
 have hfz := hX.ji.siz f (List.mem_of_getElem? hfi)
 have HPo := Keep.mk hPo
 have hpr := Keep.mk hpr0
 have Hm := Keep.mk hm256
 have HFi := Keep.mk hfi
 have HFn := Keep.mk hfn
 have HFd := Keep.mk hfd
 have HFz : Keep (V.sz = (f.bs.length : Int) ∧ f.bs.length ≤ 1114128) := ⟨hsz, hfz⟩
 have Hc := Keep.mk hc
 clear hPo hpr0 hm256 hf hsz hfi hfn hfd hfz hc
 have HRz := Keep.mk h0
 clear h0
 clear hT hDk hD hJ hP hN hNl hd hX hA hR hRn hBy
 go_enter Tryd.func24, Tryd.ntmps24
 have c5 := HJ.out.c 5 (by rfl : (jA d vp V.pr V.sz la false)[5]? = some (.bool false))
 have hl0 : ¬ (l.length : Int) = 0 := by have := HPo.out.1; omega
 have hl1 : ¬ (1048576 : Int) < (l.length : Int) := by have := HPo.out.2; omega
 have hln : ¬ l.length = 0 := by have := HPo.out.1; omega
 have hwl : IntKind.i64.wrap (16 + (l.length : Int)) = 16 + (l.length : Int) := by rw [IntKind.wrap_i64]; have := HPo.out.2; omega
 refine wp_seq_k fun K1 hK1 => rgn ?_
 refine VlS (.int .i64 0) ?_
 refine WL.nil (hK1 _ _ ?_)
 refine wp_seq_k fun K2 hK2 => ?_
 refine wp_block ?_
 refine wp_seq_k fun K3 hK3 => rgn ?_
 refine VlS (.pointer (some ⟨g, 0, none⟩)) ?_
 refine VlS (.pointer (some ⟨g, 0, none⟩)) ?_
 refine VlS (.pointer (some ⟨g, 5, none⟩)) ?_
 refine VlS (.bool false) ?_
 refine VlS (.bool false) ?_
 refine WL.nil (hK3 _ _ ?_)
 refine wp_cond_false rfl ?_
 refine wp_seq_k fun K4 hK4 => rgn ?_
 refine VlS (.slice ba l.length bc) ?_
 refine VlS (.int .i64 (l.length : Int)) ?_
 refine VlS (.bool false) ?_
 refine VlS (.bool false) ?_
 refine WL.nil (hK4 _ _ ?_)
 refine wp_cond_false rfl ?_
 refine wp_seq_k fun K5 hK5 => rgn ?_
 refine VlS (.slice ba l.length bc) ?_
 refine VlS (.int .i64 (l.length : Int)) ?_
 refine VlS (.bool false) ?_
 refine VlS (.bool false) ?_
 refine WL.nil (hK5 _ _ ?_)
 refine wp_cond_false rfl ?_
 refine wp_skip ?_
 refine hK2 _ _ ?_
 refine wp_seq_k fun K6 hK6 => rgn ?_
 refine VlS (.pointer (some ⟨g, 0, none⟩)) ?_
 refine VlS (.slice ba l.length bc) ?_
 refine VlS (.int .i64 (l.length : Int)) ?_
 refine VlS (.int .i64 (16 + (l.length : Int))) ?_
 clear c5 hl0 hl1 hln hwl
 have hnx := next_any g d m vp V.sz (16 + (l.length : Int)) la false w (by rw [← hpr.out]; exact HJ.out) ⟨by have := Hm.out; omega, by have := HFz.out; omega, by have := HFz.out; omega, by omega, by have := HPo.out.2; omega⟩
 rw [if_pos Hc.out] at hnx
 refine WL.callF (by kernel_rfl) 44 _ _ rfl Tryd.in44 #[ptr g, .int .i64 (16 + (l.length : Int))] (by simp [Act.eval]) ?_
 refine (hnx).mono ?_
 rintro e w1 ⟨rfl, hb1⟩
 refine ⟨_, rfl, ?_⟩
 have B1 := Keep.mk hb1
 clear hb1 hnx
 obtain ⟨k, hk⟩ : ∃ k : Nat, Keep ((m : Int) + 1 = (k : Int) ∧ k = m + 1) := ⟨m + 1, ⟨by omega, rfl⟩⟩
 rw [hk.out.1]
 obtain ⟨kz, hkz⟩ : ∃ z : Int, Keep (z = (k : Int)) := ⟨_, ⟨rfl⟩⟩
 rw [← hkz.out]
 obtain ⟨z, hz⟩ : ∃ z : Int, Keep (z = (m : Int)) := ⟨_, ⟨rfl⟩⟩
 simp only [Act.put, pqA, pqB, pqC]
 refine WL.new (by kernel_rfl) 79 rfl _ Tryd.newPl ?_
 have HQ0 := Keep.mk (Blk.new w1 79 #[.int .i64 0, .int .i64 0])
 have hbx := below_new w1 (.cells #[.int .i64 0, .int .i64 0] 79)
 have B2 : Keep (Below w.heap.size w (w1.alloc (.cells #[.int .i64 0, .int .i64 0] 79))) := ⟨B1.out.trans (hbx.mono B1.out.size)⟩
 clear hbx
 change WL _ _ _ _ _ (w1.alloc (.cells #[.int .i64 0, .int .i64 0] 79))
 generalize w1.alloc (.cells #[.int .i64 0, .int .i64 0] 79) = w2 at *
 obtain ⟨q, hq⟩ : ∃ p, Keep (p = w1.heap.size) := ⟨_, ⟨rfl⟩⟩
 rw [← hq.out] at HQ0 ⊢
 have hqw : Keep (w.heap.size ≤ q) := ⟨by rw [hq.out]; exact B1.out.size⟩
 simp only [Act.put, pqA, pqB, pqC]
 refine WL.storeR (by kernel_rfl) 79 (.tmp 5) (.tmp 25) rfl q #[.int .i64 kz, .int .i64 0] rfl rfl 79 #[.int .i64 0, .int .i64 0] HQ0.out (by kernel_rfl) rfl (by kernel_rfl) ?_
 have HQ := Keep.mk (HQ0.out.setRow #[.int .i64 kz, .int .i64 0])
 have B3 : Keep (Below w.heap.size w (w2.setRow q #[.int .i64 kz, .int .i64 0])) := ⟨below_setRow B2.out hqw.out _⟩
 clear HQ0 B1 B2 hq
 generalize w2.setRow q #[.int .i64 kz, .int .i64 0] = w3 at *
 have q0 := HQ.out.c 0 (by rfl : (#[.int .i64 kz, .int .i64 0] : Array Value)[0]? = some (.int .i64 kz))
 have J3 := Keep.mk (HJ.out.below B3.out HJ.out.lt)
 have hmn : ¬ z = -1 := by have := hz.out; omega
 simp only [Act.put]
 refine WL.nil (hK6 _ _ ?_)
 refine wp_seq_k fun K7 hK7 => ?_
 refine wp_seq_k fun K8 hK8 => rgn ?_
 refine VlS (.pointer (some ⟨q, 0, none⟩)) ?_
 refine VlS (.int .i64 kz) ?_
 by_cases h8_2 : kz = 256
 ·skip
  refine VlS (.bool true) ?_
  refine WL.nil (hK8 _ _ ?_)
  refine wp_cond_true rfl ?_
  refine wp_seq_k fun K9 hK9 => rgn ?_
  refine VlS (.int .i64 8) ?_
  refine WL.nil (hK9 _ _ ?_)
  refine wp_ret ?_
  go_ret
  have GW : Grown w w3 N := Grown.below B3.out
  exact ⟨8, D, V, la, false, rfl, ⟨HDk.out.below B3.out HDk.out.lt, vf, cs, vp, HD.out.below B3.out, J3.out, HP.out.grown (Grown.below (S := fun _ => False) B3.out) fun _ _ h => h, fun k hk => ⟨.inl (HN.out k hk), Nat.lt_of_lt_of_le (HNl.out k (HN.out k hk)) B3.out.size⟩⟩, GW, by omega, .inr (.inr ⟨.inr (.inr rfl), rfl, rfl, HX.out⟩)⟩
 ·have hkm : ¬ kz = z := by have := hk.out; have := hkz.out; have := hz.out; omega
  have hk256 : Keep (k < 256) := ⟨by have := hk.out; have := hkz.out; have := Hm.out; omega⟩
  refine VlS (.bool false) ?_
  refine WL.nil (hK8 _ _ ?_)
  refine wp_cond_false rfl ?_
  refine wp_skip ?_
  refine hK7 _ _ ?_
  refine wp_seq_k fun K10 hK10 => ?_
  refine wp_seq_k fun K11 hK11 => ?_
  clear q0
  have J4 : Keep (Blk w3.drew g 61 (jA d vp V.pr V.sz la false)) := ⟨J3.out.drew⟩
  have Q4 : Keep (Blk w3.drew q 79 #[.int .i64 kz, .int .i64 0]) := ⟨HQ.out.drew⟩
  have B4 : Keep (Below w.heap.size w w3.drew) := ⟨B3.out.drew⟩
  clear J3 HQ B3
  refine wp_region_held_drew (S := fun wx => wx.cell? ⟨g, 2, none⟩ = some (.int .i64 z) ∧ wx.cell? ⟨q, 0, none⟩ = some (.int .i64 kz)) (by kernel_rfl) ⟨by rw [hz.out, ← hpr.out]; exact J4.out.c 2 rfl, Q4.out.c 0 rfl⟩ (fun hHeld => ?_)
  generalize w3.drew = w4 at *
  refine tkS (i := 0) (oi := ⟨some 29, Op.move (Operand.tmp 0), 22, _, _, none⟩) (v := .pointer (some ⟨g, 0, none⟩)) rfl (Or.inl ⟨by rfl, fun w hS => by obtain ⟨hS1, hS2⟩ := hS; go_simp⟩) hHeld ?_
  refine tkS (i := 1) (oi := ⟨some 30, Op.nilCheck (Operand.tmp 29), 0, _, _, none⟩) (v := .pointer (some ⟨g, 0, none⟩)) rfl (Or.inl ⟨by rfl, fun w hS => by obtain ⟨hS1, hS2⟩ := hS; go_simp⟩) hHeld ?_
  refine tkS (i := 2) (oi := ⟨some 31, Op.fieldAddr 61 (Operand.tmp 30) 2, 0, _, _, none⟩) (v := .pointer (some ⟨g, 2, none⟩)) rfl (Or.inl ⟨by rfl, fun w hS => by obtain ⟨hS1, hS2⟩ := hS; go_simp⟩) hHeld ?_
  refine tkS (i := 3) (oi := ⟨some 32, Op.load 3 (Operand.tmp 31), 3, _, _, none⟩) (v := .int .i64 z) rfl (Or.inl ⟨by rfl, fun w hS => by obtain ⟨hS1, hS2⟩ := hS; go_simp⟩) hHeld ?_
  refine tkS (i := 4) (oi := ⟨some 33, Op.binOp BinOp.neq 3 (Operand.tmp 32) (Operand.const (Value.int IntKind.i64 (-1))) 3, 4, _, _, none⟩) (v := .bool true) rfl (Or.inl ⟨by rfl, fun w hS => by obtain ⟨hS1, hS2⟩ := hS; go_simp⟩) hHeld ?_
  refine tkS (i := 5) (oi := ⟨some 34, Op.move (Operand.tmp 33), 4, _, _, none⟩) (v := .bool true) rfl (Or.inl ⟨by rfl, fun w hS => by obtain ⟨hS1, hS2⟩ := hS; go_simp⟩) hHeld ?_
  refine tkS (i := 6) (oi := ⟨some 35, Op.fieldAddr 79 (Operand.tmp 5) 0, 0, _, _, some (5, true)⟩) (v := .pointer (some ⟨q, 0, none⟩)) rfl (Or.inl ⟨by rfl, fun w hS => by obtain ⟨hS1, hS2⟩ := hS; go_simp⟩) hHeld ?_
  refine tkS (i := 7) (oi := ⟨some 36, Op.load 3 (Operand.tmp 35), 3, _, _, some (5, true)⟩) (v := .int .i64 kz) rfl (Or.inl ⟨by rfl, fun w hS => by obtain ⟨hS1, hS2⟩ := hS; go_simp⟩) hHeld ?_
  refine tkS (i := 8) (oi := ⟨some 37, Op.move (Operand.tmp 0), 22, _, _, some (5, true)⟩) (v := .pointer (some ⟨g, 0, none⟩)) rfl (Or.inl ⟨by rfl, fun w hS => by obtain ⟨hS1, hS2⟩ := hS; go_simp⟩) hHeld ?_
  refine tkS (i := 9) (oi := ⟨some 38, Op.nilCheck (Operand.tmp 37), 0, _, _, some (5, true)⟩) (v := .pointer (some ⟨g, 0, none⟩)) rfl (Or.inl ⟨by rfl, fun w hS => by obtain ⟨hS1, hS2⟩ := hS; go_simp⟩) hHeld ?_
  refine tkS (i := 10) (oi := ⟨some 39, Op.fieldAddr 61 (Operand.tmp 38) 2, 0, _, _, some (5, true)⟩) (v := .pointer (some ⟨g, 2, none⟩)) rfl (Or.inl ⟨by rfl, fun w hS => by obtain ⟨hS1, hS2⟩ := hS; go_simp⟩) hHeld ?_
  refine tkS (i := 11) (oi := ⟨some 40, Op.load 3 (Operand.tmp 39), 3, _, _, some (5, true)⟩) (v := .int .i64 z) rfl (Or.inl ⟨by rfl, fun w hS => by obtain ⟨hS1, hS2⟩ := hS; go_simp⟩) hHeld ?_
  refine tkS (i := 12) (oi := ⟨some 41, Op.binOp BinOp.neq 3 (Operand.tmp 36) (Operand.tmp 40) 3, 4, _, _, some (5, true)⟩) (v := .bool true) rfl (Or.inl ⟨by rfl, fun w hS => by obtain ⟨hS1, hS2⟩ := hS; go_simp⟩) hHeld ?_
  refine tkS (i := 13) (oi := ⟨some 42, Op.pick (Operand.tmp 34) (Operand.tmp 41) (Operand.const (Value.bool false)), 4, _, _, none⟩) (v := .bool true) rfl (Or.inl ⟨by rfl, fun w hS => by obtain ⟨hS1, hS2⟩ := hS; go_simp⟩) hHeld ?_
  refine wpAnyH_done (by kernel_rfl) ?_ _
  refine hK11 _ _ ?_
  refine wp_cond_true rfl ?_
  refine wp_seq_k fun K12 hK12 => ?_
  have D4 : Keep (Below w4.heap.size w4 w4.drew) := ⟨(Below.refl _ _).drew⟩
  have HSx : Keep (∀ wx de, Blk wx g 61 (jA d vp V.pr V.sz la de) → wx.cell? ⟨g, 0, none⟩ = some (ptr d) ∧ wx.cell? ⟨g, 2, none⟩ = some (.int .i64 (m : Int))) := ⟨fun wx de h => ⟨h.c 0 rfl, by rw [← hpr.out]; exact h.c 2 rfl⟩⟩
  have T4 : Keep (Tab w4) := ⟨HT.out.below B4.out HZ.out⟩
  have K4 : Keep (Blk w4 d 75 #[ptr p]) := ⟨HDk.out.below B4.out HDk.out.lt⟩
  have DD4 : Keep (DskAt w4 p vf cs D) := ⟨HD.out.below B4.out⟩
  have P4 : Keep (OwnP w4 vp V.pl) := ⟨HP.out.grown (Grown.below (S := fun _ => False) B4.out) fun _ _ h => h⟩
  refine wp_region_held_drew (S := fun wx => wx.cell? ⟨g, 0, none⟩ = some (ptr d) ∧ wx.cell? ⟨g, 2, none⟩ = some (.int .i64 (m : Int))) (by kernel_rfl) (HSx.out _ _ J4.out.drew) (fun hHeld => ?_)
  refine tkS (i := 0) (oi := ⟨some 43, Op.move (Operand.tmp 0), 22, _, _, none⟩) (v := .pointer (some ⟨g, 0, none⟩)) rfl (Or.inl ⟨by rfl, fun w hS => by obtain ⟨hS1, hS2⟩ := hS; go_simp⟩) hHeld ?_
  refine tkS (i := 1) (oi := ⟨some 44, Op.move (Operand.tmp 0), 22, _, _, none⟩) (v := .pointer (some ⟨g, 0, none⟩)) rfl (Or.inl ⟨by rfl, fun w hS => by obtain ⟨hS1, hS2⟩ := hS; go_simp⟩) hHeld ?_
  refine tkS (i := 2) (oi := ⟨some 45, Op.nilCheck (Operand.tmp 44), 0, _, _, none⟩) (v := .pointer (some ⟨g, 0, none⟩)) rfl (Or.inl ⟨by rfl, fun w hS => by obtain ⟨hS1, hS2⟩ := hS; go_simp⟩) hHeld ?_
  refine tkS (i := 3) (oi := ⟨some 46, Op.fieldAddr 61 (Operand.tmp 45) 0, 0, _, _, none⟩) (v := .pointer (some ⟨g, 0, none⟩)) rfl (Or.inl ⟨by rfl, fun w hS => by obtain ⟨hS1, hS2⟩ := hS; go_simp⟩) hHeld ?_
  refine tkS (i := 4) (oi := ⟨some 47, Op.load 30 (Operand.tmp 46), 30, _, _, none⟩) (v := .pointer (some ⟨d, 0, none⟩)) rfl (Or.inl ⟨by rfl, fun w hS => by obtain ⟨hS1, hS2⟩ := hS; go_simp⟩) hHeld ?_
  refine tkS (i := 5) (oi := ⟨some 48, Op.move (Operand.tmp 0), 22, _, _, none⟩) (v := .pointer (some ⟨g, 0, none⟩)) rfl (Or.inl ⟨by rfl, fun w hS => by obtain ⟨hS1, hS2⟩ := hS; go_simp⟩) hHeld ?_
  refine tkS (i := 6) (oi := ⟨some 49, Op.nilCheck (Operand.tmp 48), 0, _, _, none⟩) (v := .pointer (some ⟨g, 0, none⟩)) rfl (Or.inl ⟨by rfl, fun w hS => by obtain ⟨hS1, hS2⟩ := hS; go_simp⟩) hHeld ?_
  refine tkS (i := 7) (oi := ⟨some 50, Op.fieldAddr 61 (Operand.tmp 49) 2, 0, _, _, none⟩) (v := .pointer (some ⟨g, 2, none⟩)) rfl (Or.inl ⟨by rfl, fun w hS => by obtain ⟨hS1, hS2⟩ := hS; go_simp⟩) hHeld ?_
  refine tkS (i := 8) (oi := ⟨some 51, Op.load 3 (Operand.tmp 50), 3, _, _, none⟩) (v := .int .i64 (m : Int)) rfl (Or.inl ⟨by rfl, fun w hS => by obtain ⟨hS1, hS2⟩ := hS; go_simp⟩) hHeld ?_
  refine wpAnyH_ready (rs := [9]) (by kernel_rfl) (by simp) ?_
  refine AllReadyH.cons (o := ⟨some 52, Op.call { callee := Callee.value (Operand.func 31), args := #[Operand.tmp 51], argTypes := #[3] }, 9, _, _, none⟩) rfl (fun K hK => ?_) AllReadyH.nil
  rw [if_pos (by rfl)]
  refine wp_callF 31 _ _ rfl Tryd.in31 #[.int .i64 (m : Int)] (by simp [Act.eval]) (fun vz wz => vz = .string (nmS m) ∧ Below w4.heap.size w4 wz) ?_ ?_
  ·refine (name_any m (by have := Hm.out; omega) w4.drew (T4.out.below D4.out (Nat.lt_of_le_of_lt (Nat.zero_le _) J4.out.lt))).mono ?_
   rintro e wz ⟨rfl, h⟩
   exact ⟨_, rfl, rfl, D4.out.trans (h.mono D4.out.size)⟩
  rintro vz w5 ⟨rfl, h5⟩
  have B5 := Keep.mk h5
  clear h5
  obtain ⟨nn, hnn⟩ : ∃ s, Keep (s = nmS m) := ⟨_, ⟨rfl⟩⟩
  rw [← hnn.out]
  refine hK _ _ (HSx.out _ _ (J4.out.below B5.out J4.out.lt)) fun hH5 => ?_
  clear hK
  simp only [Act.put, pqA, pqB, pqC]
  refine wpAnyH_ready (rs := [10]) (by kernel_rfl) (by simp) ?_
  refine AllReadyH.cons (o := ⟨some 53, Op.call { callee := Callee.value (Operand.func 43), args := #[Operand.tmp 47, Operand.tmp 52], argTypes := #[30, 9] }, 24, _, _, none⟩) rfl (fun K hK => ?_) AllReadyH.nil
  rw [if_pos (by rfl)]
  refine wp_callF 43 _ _ rfl Tryd.in43 #[ptr d, .string nn] (by simp [Act.eval]) (fun vz wz => vz = .int .i64 (pw D) ∧ ∃ cs', DskAt wz p vf cs' (if D.fuse = 0 then D.act else D.act.sync i) ∧ (Grown w5 wz fun k => k = p ∨ vf.ownBlock = some k) ∧ ∀ k, DskS p vf cs' k → DskS p vf cs k) ?_ ?_
  ·refine (syn_is d p i nn vf cs D w5 (K4.out.below B5.out K4.out.lt) (DD4.out.below B5.out) HX.out.out (by rw [hnn.out]; exact HFd.out) (by rw [HD.out.fcs.len]; exact HX.out.ji.ok.len) ⟨HX.out.ji.ok.acts, by have := HA.out; omega⟩ ⟨by have := HX.out.ji.ok.fuse; omega, HX.out.ji.ok.fuse.2⟩).mono ?_
   rintro e wz ⟨rfl, cs1, h1, h2, h3⟩
   exact ⟨_, rfl, rfl, cs1, h1, h2, h3⟩
  rintro vz w7 ⟨rfl, cs7, h1, h2, h3⟩
  have D7 := Keep.mk h1
  have N7 := Keep.mk h3
  have hty : ∀ k, k = p ∨ vf.ownBlock = some k → DskS p vf cs k := fun k hk => hk.elim .inl fun e => .inr (.inl e)
  have hne : ∀ {k : Nat} {T : TypeId}, Typ w4 k T → T = 61 ∨ T = 79 → ¬ (k = p ∨ vf.ownBlock = some k) := fun hk hT e => by rcases DD4.out.sTyp (hty _ e) with h | h | h <;> (have := h.one hk; rcases hT with hT | hT <;> (rw [hT] at this; revert this; decide))
  have J7 : Keep (Blk w7 g 61 (jA d vp V.pr V.sz la false)) := ⟨h2.blk (J4.out.below B5.out J4.out.lt) (hne J4.out.typ (.inl rfl))⟩
  have Q7 : Keep (Blk w7 q 79 #[.int .i64 kz, .int .i64 0]) := ⟨h2.blk (Q4.out.below B5.out Q4.out.lt) (hne Q4.out.typ (.inr rfl))⟩
  have P7 : Keep (OwnP w7 vp V.pl) := ⟨(P4.out.grown (Grown.below (S := fun _ => False) B5.out) fun _ _ h => h).grown h2 fun k hk => hne (P4.out.typ hk) (.inr rfl)⟩
  have G7 : Keep (Grown w w7 N) := ⟨((Grown.below B4.out).trans (Grown.below B5.out)).next h2 fun k _ e => HN.out k (.inl (hty k e))⟩
  clear h1 h2 h3 hty hne
  obtain ⟨ee, hee⟩ : ∃ z, Keep (z = pw D) := ⟨_, ⟨rfl⟩⟩
  rw [← hee.out]
  refine hK _ _ (HSx.out _ _ J7.out) fun hH7 => ?_
  clear hK
  simp only [Act.put, pqA, pqB, pqC]
  refine wpAnyH_ready (rs := [11]) (by kernel_rfl) (by simp) ?_
  refine AllReadyH.cons (o := ⟨some 54, Op.call { callee := Callee.value (Operand.func 29), args := #[Operand.tmp 43, Operand.tmp 53], argTypes := #[22, 24] }, 24, _, _, none⟩) rfl (fun K hK => ?_) AllReadyH.nil
  rw [if_pos (by rfl)]
  refine wp_callF 29 _ _ rfl Tryd.in29 #[ptr g, .int .i64 ee] (by simp [Act.eval]) (fun vz wz => vz = .int .i64 ee ∧ (∃ de', Blk wz g 61 (jA d vp V.pr V.sz la de') ∧ (ee ≠ 7 → de' = false)) ∧ Grown w7 wz fun k => k = g) ?_ ?_
  ·refine (told_gen g d vp V.pr V.sz ee la false w7 J7.out).mono ?_
   rintro e wz ⟨rfl, h1, h2⟩
   exact ⟨_, rfl, rfl, h1, h2⟩
  rintro vz w8 ⟨rfl, ⟨de8, h1, h1'⟩, h2⟩
  have J8 := Keep.mk h1
  have HE8 := Keep.mk h1'
  have hgt : ∀ {k : Nat} {T : TypeId}, Typ w7 k T → T ≠ 61 → ¬ k = g := fun hk hT e => by subst e; exact hT (hk.one J7.out.typ)
  have D8 : Keep (DskAt w8 p vf cs7 (if D.fuse = 0 then D.act else D.act.sync i)) := ⟨D7.out.grown h2 fun k hk => by rcases hk with h | h | h <;> exact hgt h (by decide)⟩
  have Q8 : Keep (Blk w8 q 79 #[.int .i64 kz, .int .i64 0]) := ⟨h2.blk Q7.out (hgt Q7.out.typ (by decide))⟩
  have P8 : Keep (OwnP w8 vp V.pl) := ⟨P7.out.grown h2 fun k hk => hgt (P7.out.typ hk) (by decide)⟩
  have G8 : Keep (Grown w w8 N) := ⟨G7.out.trans (h2.mono fun k _ e => HN.out k (.inr (.inl e)))⟩
  clear h1 h1' h2 hgt
  refine hK _ _ (HSx.out _ _ J8.out) fun hH8 => ?_
  clear hK
  simp only [Act.put, pqA, pqB, pqC]
  refine tkS (i := 12) (oi := ⟨some 6, Op.assign (Operand.tmp 54), 24, _, _, none⟩) (v := .int .i64 ee) rfl (Or.inl ⟨by rfl, fun w hS => by obtain ⟨hS1, hS2⟩ := hS; go_simp⟩) hH8 ?_
  refine wpAnyH_done (by kernel_rfl) ?_ _
  refine hK12 _ _ ?_
  refine wp_seq_k fun K13 hK13 => ?_
  rcases Decidable.em (D.fuse = 0) with hfu | hfu
  ·have he : ee = 7 := by rw [hee.out]; unfold pw; rw [if_pos hfu]
   subst he
   have D9 := D8
   rw [if_pos hfu] at D9
   refine rgn ?_
   refine VlS (.int .i64 7) ?_
   refine VlS (.bool true) ?_
   refine WL.nil (hK13 _ _ ?_)
   refine wp_cond_true rfl ?_
   refine wp_seq_k fun K14 hK14 => rgn ?_
   refine VlS (.int .i64 7) ?_
   refine VlS (.int .i64 7) ?_
   refine WL.nil (hK14 _ _ ?_)
   refine wp_ret ?_
   go_ret
   exact ⟨7, D.act, V, la, de8, rfl, ⟨G8.out.blk HDk.out Hd.out, vf, cs7, vp, D9.out, J8.out, P8.out, fun k hk => ⟨.inl (HN.out k (hk.imp (N7.out k) id)), by rcases hk with h | h | h; exact D9.out.sLt h; rw [h]; exact J8.out.lt; exact (P8.out.typ h).lt⟩⟩, G8.out, by show D.acts ≤ D.acts + 1 ∧ D.acts + 1 ≤ D.acts + 300; omega, .inr (.inl ⟨rfl, (HX.out.ji.act.cr HX.out.su.act).more l⟩)⟩
  ·have he : ee = 0 := by rw [hee.out]; unfold pw; rw [if_neg hfu]
   subst he
   have D9 := D8
   rw [if_neg hfu] at D9
   have hde : de8 = false := HE8.out (by decide)
   subst hde
   have Hfu := Keep.mk hfu
   clear hfu D8 HE8
   refine rgn ?_
   refine VlS (.int .i64 0) ?_
   refine VlS (.bool false) ?_
   refine WL.nil (hK13 _ _ ?_)
   refine wp_cond_false rfl ?_
   refine wp_skip ?_
   refine hK10 _ _ ?_
   rw [hkz.out] at Q8
   obtain ⟨m1, m2⟩ := HX.out.ji.act.sync hpr.out (i := i) (f := f) HFi.out HFn.out
   have hsafe := HX.out.ji.act.synced hpr.out (i := i) (f := f) HFi.out HFn.out
   have ho1 : (D.act.sync i).out = false := by rw [← HX.out.out]; exact (act_on Hfu.out).1
   have ha1 : (D.act.sync i).acts = D.acts + 1 := rfl
   generalize D.act.sync i = D1 at *
   have hk1 : V.pr = (k : Int) - 1 := by have := hk.out; have := hpr.out; omega
   have hlk0 : lk D1.fs (nmS k) = none := m1.hi k (by omega) hk256.out
   obtain ⟨j, hfd, _⟩ := fnd_absent hlk0
   have hcnt : D1.fs.length < 256 := by have h1 := m1.count hk1; have := hk256.out; omega
   obtain ⟨n1, n2⟩ := m1.new (sure := sure) (m := k) (i := j) (p := l) HX.out.su.1 hk1 hk256.out hsafe hfd hcnt HPo.out HBy.out
   have hk2 := hk256.out
   have hAp : ∀ (wx : World) (v : Value), Blk wx d 75 #[ptr p] → DskAt wx p vf cs7 D1 → RowAt wx v (fr l) → (∀ k, v.ownBlock = some k → k ≠ p) → Calls Tryd.prog 45 #[ptr d, .string (nmS k), v] wx fun e w' => e = .returned (.int .i64 (pw D1)) ∧ ∃ vf' cs', DskAt w' p vf' cs' (D1.appNew j (nmS k) (fr l)) ∧ Grown wx w' (DskS p vf cs7) ∧ ∀ k, DskS p vf' cs' k → DskS p vf cs7 k ∨ wx.heap.size ≤ k := fun wx v h1 h2 h3 h4 => by
    refine (app_new d p j (nmS k) v vf (fr l) cs7 D1 wx h1 h2 ho1 (nm_rgt (by omega)) hfd (by rw [h2.fcs.len]; have := hcnt; omega) ⟨by rw [m1.ok.used]; exact usd_nonneg _, by rw [m1.room]; omega, by rw [m1.room]; omega, by rw [m1.room, m1.ok.used, fr_len]; have := m1.ok.big; have := HPo.out.2; omega⟩ ⟨m1.ok.acts, by have := HA.out; omega⟩ ⟨by have := m1.ok.fuse; omega, m1.ok.fuse.2⟩ h3 h4).mono ?_
    rintro e w' ⟨rfl, vf', cs', h5, h6, h7⟩
    exact ⟨rfl, vf', cs', h5, h6.mono fun k _ e => .inl e, h7⟩
   exact japp_tail (k := k) (a := 0) (D0 := D) (D := D1) (DA := D1.appNew j (nmS k) (fr l)) (V' := V.new k l) (HT.out.grown G8.out (fun e => by have h1 := HRz.out; exact h1 e)) G8.out J8.out P8.out HDk.out D9.out (fun k hk => HN.out k (hk.imp (N7.out k) id)) HNl.out Hd.out Q8.out hqw.out (HR.out.grown G8.out fun b hb _ e => HRn.out (by intro e2; have h1 := HPo.out.1; rw [e2] at h1; simp at h1) b hb e) hk256.out (by omega) HPo.out (by have := HX.out.ji.few; omega) hAp (by show D.acts ≤ D1.acts + 1 ∧ D1.acts + 1 ≤ D.acts + 300; omega) ⟨rfl, rfl, by show 16 + (l.length : Int) = 0 + 16 + (l.length : Int); omega, rfl⟩ (fun hfu => ⟨n1, n2, (fun h => by cases h), (fun _ => by show (0 : Int) ≤ (k : Int); omega), by rw [← ho1]; exact (act_on hfu).1⟩) (n1.cr n2)

theorem japp_any (g d p : Nat) (v : Value) (l : List Int) (D : DV) (V : JV) (la : Bool) (sure : Nat) (N : Nat → Prop) (w : World) (hT : Tab w) (hDN : JDN w g d p D V la false N) (hNl : ∀ k, N k → k < w.heap.size) (hd : ¬ N d) (hX : JX D V la sure) (hA : D.acts ≤ 4611686018427380000) (hR : RowAt w v l) (hRn : l ≠ [] → ∀ k, v.ownBlock = some k → ¬ N k) (hBy : Byts l) (h0 : ¬ N 0) : Calls Tryd.prog 24 #[ptr g, v] w (JAppPost D V la l sure g d p N w) := by
 by_cases h1 : l.length = 0
 ·exact japp_empty g d p v l D V la sure N w hT hDN hNl hd hX hA hR hRn hBy h1
 by_cases h2 : 1048576 < l.length
 ·exact japp_big g d p v l D V la sure N w hT hDN hNl hd hX hA hR hRn hBy h2
 have hPo : PayOk l := ⟨by omega, by omega⟩
 have hb := openV_bnd (Fk D.fs)
 rw [hX.ji.rd] at hb
 by_cases h3 : V.pr = -1
 ·exact japp_first g d p v l D V la sure N w hT hDN hNl hd hX hA hR hRn hBy hPo h3
 have h4 : V.pr = (V.pr.toNat : Int) := by omega
 by_cases h5 : 0 < V.sz ∧ 65536 < V.sz + (16 + (l.length : Int))
 ·exact japp_next g d p v l D V la sure N w hT hDN hNl hd hX hA hR hRn hBy _ h0 hPo h4 h5
 ·exact japp_same g d p v l D V la sure N w hT hDN hNl hd hX hA hR hRn hBy _ hPo h4 h5
def IntsB (w : World) (v : Value) (l : List Int) (B : Nat) : Prop := IntsAt w v l ∧ (l ≠ [] → ∀ k, v.ownBlock = some k → k < B)
theorem IntsB.grown {w w' : World} {v : Value} {l : List Int} {B : Nat} {S : Nat → Prop} (h : IntsB w v l B) (hg : Grown w w' S) (hs : ∀ k, S k → B ≤ k) : IntsB w' v l B := by
 refine ⟨?_, h.2⟩
 by_cases e : l = []
 ·subst e
  rcases h.1 with h1 | ⟨q, o, c, rfl, _⟩
  ·exact .inl h1
  ·exact .inl ⟨_, _, rfl, rfl⟩
 ·rcases h.1 with ⟨_, _, _, h1⟩ | ⟨q, o, c, rfl, h2⟩
  ·exact absurd h1 e
  ·exact .inr ⟨q, o, c, rfl, fun i hi => hg.cell (h2 i hi) fun e1 => by have := h.2 e q rfl; have := hs q e1; omega⟩
def RowB (w : World) (v : Value) (l : List Int) (B : Nat) : Prop := RowAt w v l ∧ (l ≠ [] → ∀ k, v.ownBlock = some k → k < B)
theorem RowB.grown {w w' : World} {v : Value} {l : List Int} {B : Nat} {S : Nat → Prop} (h : RowB w v l B) (hg : Grown w w' S) (hs : ∀ k, S k → B ≤ k) : RowB w' v l B := by
 refine ⟨?_, h.2⟩
 by_cases e : l = []
 ·subst e
  rcases h.1 with h1 | h1 | ⟨q, o, c, rfl, _⟩
  ·exact .inl h1
  ·exact .inr (.inl h1)
  ·exact .inr (.inl ⟨_, _, rfl, rfl⟩)
 ·exact h.1.grown hg fun b hb _ e1 => by have := h.2 e b hb; have := hs b e1; omega
def OwnA (w : World) (v : Value) (vs : List Value) : Prop :=
 (v = .slice none 0 0 ∧ vs = []) ∨ ∃ g cap cur, v = .slice (some ⟨g, 0, none⟩) vs.length cap ∧ Blk w g 37 cur ∧ vs.length ≤ cap ∧ cap ≤ cur.size ∧ cur.toList.take vs.length = vs
theorem OwnA.of {w : World} {v : Value} {vs : List Value} (h : OwnR w v vs) : OwnA w v vs := by
 rcases h.2 with ⟨h1, h0⟩ | ⟨g, cap, cur, rfl, _, h3, h4, _, h6, h7⟩
 ·exact .inl ⟨h1, List.eq_nil_of_length_eq_zero h0⟩
 ·exact .inr ⟨g, cap, cur, rfl, h3, h4, by omega, by rw [Nat.mul_one] at h7; exact h7⟩
theorem OwnA.grown {w w' : World} {v : Value} {vs : List Value} {S : Nat → Prop} (h : OwnA w v vs) (hg : Grown w w' S) (hs : ∀ k, v.ownBlock = some k → ¬ S k) : OwnA w' v vs := by
 rcases h with h | ⟨g, cap, cur, rfl, h1, h2⟩
 ·exact .inl h
 ·exact .inr ⟨g, cap, cur, rfl, hg.blk h1 (hs g rfl), h2⟩
theorem OwnA.typ {w : World} {v : Value} {vs : List Value} (h : OwnA w v vs) {k : Nat} (hk : v.ownBlock = some k) : Typ w k 37 := by
 rcases h with ⟨rfl, _⟩ | ⟨g, cap, cur, rfl, h3, _⟩
 ·simp [Value.ownBlock] at hk
 ·simp [Value.ownBlock] at hk
  subst hk
  exact h3.typ
theorem OwnA.take {w : World} {a : Option Addr} {n c : Nat} {vs : List Value} (h : OwnA w (.slice a n c) vs) (k : Nat) (hk : k ≤ vs.length) : OwnA w (.slice a k k) (vs.take k) ∧ k ≤ c := by
 have hl : (vs.take k).length = k := by rw [List.length_take]; omega
 rcases h with ⟨h1, rfl⟩ | ⟨g, cap, cur, e, h1, h2, h3, h4⟩
 ·injection h1 with h1 h2 h3
  subst h1 h2 h3
  have : k = 0 := by simpa using hk
  subst this
  exact ⟨.inl ⟨rfl, rfl⟩, Nat.le_refl _⟩
 ·injection e with e1 e2 e3
  subst e1 e2 e3
  exact ⟨.inr ⟨g, k, cur, by rw [hl], h1, by omega, by omega, by rw [hl, ← h4, List.take_take, Nat.min_eq_left hk]⟩, by omega⟩
theorem run_appA (w : World) (ty : TypeId) (v : Value) (l : List Value) (hown : OwnA w v l) (g : Nat) (x : Value) (hx : x.oneCell' = true) (hg : Blk w g 37 #[x]) (hb : l.length ≤ 1000000000000) :
  ∃ v' w', (Builtin.append_ #[23, 23] ty #[v, .slice (some ⟨g, 0, none⟩) 1 1]).run Tryd.prog w = .ok v' w' ∧ OwnA w' v' (l ++ [x]) ∧ (Grown w w' fun k => v.ownBlock = some k) ∧ Moved w v v' := by
 obtain ⟨i, hi, hzz⟩ := Option.map_eq_some_iff.1 Tryd.infoR
 simp only [Prod.mk.injEq] at hzz
 obtain ⟨hz, hsz, hby⟩ := hzz
 have hnews : ∀ j u, [x][j]? = some u → w.cell? ((⟨g, 0, none⟩ : Addr).add j) = some u := fun j u hu => by
  rw [Addr.add_mid, Nat.zero_add, hg.cell]
  simpa using hu
 rcases hown with ⟨rfl, rfl⟩ | ⟨q, cap, cur, rfl, h1, h2, h3, h4⟩
 ·obtain ⟨v', w', a1, a2, a3, a4⟩ := run_appR w ty _ [] (ownR_nil w) g x hx hg (by simp)
  exact ⟨v', w', a1, OwnA.of a2, a3, a4⟩
 ·by_cases hroom : l.length + 1 ≤ cap
  ·have hr := run_append_room (P := Tryd.prog) w 23 ty 37 i Tryd.underlying23 hi q l.length cap cur h1 ⟨g, 0, none⟩ 1 1 [x] (by rw [hsz]; rfl) hnews (fun u hu => by simp at hu; rw [hu]; exact hx) hroom (by rw [hsz]; simp; omega)
   refine ⟨_, _, hr, .inr ⟨q, cap, _, by rw [List.length_append]; rfl, Blk.setRow h1 _, by rw [List.length_append]; exact hroom, ?_, ?_⟩, Grown.setRow w q _ fun _ => rfl, .inl rfl⟩
   ·rw [hsz]
    simp only [List.size_toArray, List.length_append, List.length_take, List.length_drop, Array.length_toList, List.length_singleton]
    omega
   ·rw [hsz, Nat.mul_one, h4, List.append_assoc, ← List.append_assoc]
    exact List.take_left' rfl
  ·obtain ⟨v', w', a1, a2, a3⟩ := run_append_arg_grows (P := Tryd.prog) w 23 ty 37 i (.slice none 0 0) 1 24 Tryd.underlying23 hi hz hsz hby rfl (by omega) ⟨q, 0, none⟩ l.length cap l (by omega) (fun j u hu => by
     rw [Addr.add_mid, Nat.zero_add, h1.cell, ← Array.getElem?_toList]
     have hj := (List.getElem?_eq_some_iff.1 hu).1
     rw [← h4, List.getElem?_take, if_pos hj] at hu
     exact hu) ⟨g, 0, none⟩ 1 1 [x] rfl hnews (by omega) (by unfold maxLen; omega) (by omega)
   refine ⟨v', w', a1, OwnA.of ?_, Grown.of a3 fun k _ e => by (cases e), ?_⟩
   ·unfold OwnR
    rw [List.length_append]
    exact ⟨a2.1, a2.2.imp id fun ⟨g, cap, cur, h1, _, h3⟩ => ⟨g, cap, cur, h1, Nat.zero_le _, h3⟩⟩
   ·rcases a2.2 with ⟨_, h0⟩ | ⟨g', cap', cur', e, h5, _⟩
    ·omega
    ·exact .inr ⟨g', by rw [e]; rfl, h5⟩
def RwA (w : World) (v : Value) (ls : List (List Int)) (B : Nat) : Prop :=
 ∃ vs : List Value, OwnA w v vs ∧ vs.length = ls.length ∧ ∀ i, i < ls.length → RowB w (vs.getD i noS) (ls.getD i []) B
theorem RwA.nil (w : World) (B : Nat) : RwA w (.slice none 0 0) [] B := ⟨[], .inl ⟨rfl, rfl⟩, rfl, fun i hi => by simp at hi⟩
theorem RwA.rws {w : World} {v : Value} {ls : List (List Int)} {B : Nat} (h : RwA w v ls B) : RwsAt w v ls := by
 obtain ⟨vs, h1, h2, h3⟩ := h
 refine ⟨fun i => vs.getD i noS, ?_, fun i hi => (h3 i hi).1⟩
 rcases h1 with ⟨rfl, h4⟩ | ⟨g, cap, cur, rfl, h4, h5, _, h6⟩
 ·exact .inl ⟨_, _, rfl, List.eq_nil_of_length_eq_zero (by rw [← h2, h4]; rfl)⟩
 ·refine .inr ⟨g, 0, cap, by rw [h2], by omega, fun i hi => ?_⟩
  rw [h4.cell, Nat.zero_add]
  have : vs[i]? = some (vs.getD i noS) := by rw [List.getD_eq_getElem?_getD, List.getElem?_eq_getElem (by omega)]; rfl
  rw [← this, ← h6, List.getElem?_take, if_pos (by omega), Array.getElem?_toList]
theorem RwA.form {w : World} {v : Value} {ls : List (List Int)} {B : Nat} (h : RwA w v ls B) : ∃ a c, v = .slice a ls.length c := h.rws.form
theorem RwA.typ {w : World} {v : Value} {ls : List (List Int)} {B : Nat} (h : RwA w v ls B) {k : Nat} (hk : v.ownBlock = some k) : Typ w k 37 := by
 obtain ⟨vs, h1, _⟩ := h
 exact h1.typ hk
theorem RwA.grown {w w' : World} {v : Value} {ls : List (List Int)} {B : Nat} {S : Nat → Prop} (h : RwA w v ls B) (hg : Grown w w' S) (hv : ∀ k, v.ownBlock = some k → ¬ S k) (hs : ∀ k, S k → B ≤ k) : RwA w' v ls B := by
 obtain ⟨vs, h1, h2, h3⟩ := h
 exact ⟨vs, h1.grown hg hv, h2, fun i hi => (h3 i hi).grown hg hs⟩
theorem RwA.take {w : World} {a : Option Addr} {n c B : Nat} {ls : List (List Int)} (h : RwA w (.slice a n c) ls B) (k : Nat) (hk : k ≤ ls.length) : RwA w (.slice a k k) (ls.take k) B ∧ k ≤ c := by
 obtain ⟨vs, h1, h2, h3⟩ := h
 obtain ⟨h4, h5⟩ := h1.take k (by omega)
 refine ⟨⟨vs.take k, h4, by simp [h2], fun i hi => ?_⟩, h5⟩
 have hi2 : i < k ∧ i < ls.length := by rw [List.length_take] at hi; omega
 have := h3 i hi2.2
 rw [List.getD_eq_getElem?_getD, List.getD_eq_getElem?_getD, List.getElem?_take, List.getElem?_take, if_pos hi2.1, if_pos hi2.1, ← List.getD_eq_getElem?_getD, ← List.getD_eq_getElem?_getD]
 exact this
theorem wp_appA {Q : Exit → Act → World → Prop} {o : Oper} {a : Act} {w : World} {K : Act → World → Prop} (s x : Operand)
  (ho : o.op = .call { callee := .builtin .append, args := #[s, x], argTypes := #[23, 23] }) (v : Value) (ls : List (List Int)) (B g : Nat) (y : Value) (l : List Int)
  (hs : a.eval s = v) (hx : a.eval x = .slice (some ⟨g, 0, none⟩) 1 1) (hown : RwA w v ls B) (hg : Blk w g 37 #[y]) (hr : RowB w y l B) (hb : ls.length ≤ 1000000000000) (hv : ∀ k, v.ownBlock = some k → B ≤ k)
  (h : ∀ v' w', RwA w' v' (ls ++ [l]) B → (Grown w w' fun k => v.ownBlock = some k) → Moved w v v' → K (a.put o.dst v') w') : o.wp Tryd.prog a w K Q := by
 obtain ⟨vs, h1, h2, h3⟩ := hown
 obtain ⟨ya, yc, hyf⟩ := row_form hr.1
 obtain ⟨v', w', hrun, a1, a2, a3⟩ := run_appA w o.type v vs h1 g y (by rw [hyf]; rfl) hg (by omega)
 unfold Oper.wp execOp
 simp only [ho, resolve, invoke, builtin, Sem.run_bind, Sem.run_pure, Result.andThen_ok, List.map_toArray, List.map_cons, List.map_nil, hs, hx, hrun]
 refine h v' w' ⟨vs ++ [y], a1, by simp [h2], fun i hi => ?_⟩ a2 a3
 rw [List.length_append, List.length_singleton] at hi
 by_cases hi2 : i < ls.length
 ·have e1 : (vs ++ [y]).getD i noS = vs.getD i noS := by rw [List.getD_eq_getElem?_getD, List.getD_eq_getElem?_getD, List.getElem?_append_left (by omega)]
  have e2 : (ls ++ [l]).getD i [] = ls.getD i [] := by rw [List.getD_eq_getElem?_getD, List.getD_eq_getElem?_getD, List.getElem?_append_left hi2]
  rw [e1, e2]
  exact (h3 i hi2).grown a2 hv
 ·obtain rfl : i = ls.length := by omega
  have e1 : (vs ++ [y]).getD ls.length noS = y := by rw [← h2, List.getD_eq_getElem?_getD]; simp
  have e2 : (ls ++ [l]).getD ls.length [] = l := by rw [List.getD_eq_getElem?_getD]; simp
  rw [e1, e2]
  exact hr.grown a2 hv
theorem Tryd.elemRw : Tryd.prog.elem 23 = 37 := by kernel_rfl
theorem Tryd.sizeRw (w : World) : (sizeOf 37).run Tryd.prog w = .ok 1 w := by kernel_rfl
theorem sl_run3 (base : Option Addr) (n cap a : Nat) (ha : a ≤ cap) (wx : World) : (Instr.sliceAt 23 (.slice base n cap) none (some (.int .i64 (a : Int))) (some (.int .i64 (a : Int)))).run Tryd.prog wx = .ok (.slice base a a) wx := by
 have hu : Tryd.prog.underlying 23 = some (.slice (Tryd.prog.elem 23)) := by rw [Tryd.elemRw]; exact Tryd.underlying23
 rw [run_sliceAt_slice (P := Tryd.prog) (w := wx) 23 _ none (some (.int .i64 (a : Int))) (some (.int .i64 (a : Int))) hu, run_slice_any (P := Tryd.prog) (w := wx) (t := 23) (a := base) (len := n) (cap := cap) hu, Tryd.elemRw]
 have hb : (Instr.sliceBounds true n cap none (some (.int .i64 (a : Int))) (some (.int .i64 (a : Int)))).run Tryd.prog wx = .ok (0, a, a) wx := by
  have h1 : ¬ (cap : Int) < (a : Int) := by omega
  simp [Instr.sliceBounds, run_sliceBound, h1, ha]
 rw [hb, Result.andThen_ok, Tryd.sizeRw, Result.andThen_ok]
 have h4 : (if a = 0 then base else base.map (·.add (0 * 1))) = base := by
  split
  ·rfl
  ·cases base <;> rfl
 simp only [sliced, Nat.sub_zero, h4]
theorem yieldsIf_slice3 {P : Program} {ops : Array Oper} {S : World → Prop} {op : Oper} {a : Act} (hw : Region.wanted op (yielded ops a.tmps) = true) (t : TypeId) (x hi mx : Operand) (ho : op.op = .slice t x none (some hi) (some mx))
  (vx vh vm vs : Value) (hx : a.eval x = vx) (hh : a.eval hi = vh) (hm : a.eval mx = vm) (hr : ∀ w : World, (Instr.sliceAt t vx none (some vh) (some vm)).run P w = .ok vs w) : YieldsIf P ops S op vs a :=
 .inl ⟨hw, fun w _ => by
  unfold execOp
  simp only [ho, hx, hh, hm, Option.map_some, Option.map_none, Sem.run_bind, hr w, Result.andThen_ok, Sem.run_pure]⟩
theorem JDN.grown {w w' : World} {g d p : Nat} {D : DV} {V : JV} {la de : Bool} {N S : Nat → Prop} (h : JDN w g d p D V la de N) (hg : Grown w w' S) (hd : ¬ S d) (hs : ∀ k, N k → ¬ S k) : JDN w' g d p D V la de N := by
 obtain ⟨h1, vf, cs, vp, h2, h3, h4, h5⟩ := h
 have hD : DskN w d p D (DskS p vf cs) := ⟨h1, vf, cs, h2, fun k hk => hk⟩
 have h6 := h2
 refine ⟨hg.blk h1 hd, vf, cs, vp, ?_, hg.blk h3 (hs g (h5 g (.inr (.inl rfl)))), h4.grown hg fun k hk => hs k (h5 k (.inr (.inr hk))), h5⟩
 have hl : ∀ k, DskS p vf cs k → ¬ S k := fun k hk => hs k (h5 k (.inl hk))
 refine ⟨hg.blk h2.blk (hl p (.inl rfl)), h2.own.grown hg fun k hk => hl k (.inr (.inl hk)), h2.fcs.len, fun i x f hx hf => ?_, h2.fcs.apart⟩
 have h4 := h2.fcs.each i x f hx hf
 exact ⟨h4.1, h4.2.1, h4.2.2.grown hg fun k hk => hl k (.inr (.inr ⟨i, x, hx, hk⟩))⟩
def lfA (h d j : Nat) (vA : Value) (sure : Nat) : Array Value := #[ptr h, ptr d, ptr j, vA, .int .i64 (sure : Int)]
structure LF (w : World) (B x h d p j : Nat) (vA : Value) (D : DV) (V : JV) (la de : Bool) (sure : Nat) (all : List (List Int)) (N : Nat → Prop) : Prop where
 tab : Tab w
 pos : 0 < B
 siz : B ≤ w.heap.size
 bx : Blk w x 36 (lfA h d j vA sure)
 xl : B ≤ x
 bh : Blk w h 77 #[ptr p]
 jd : JDN w j d p D V la de N
 ra : RwA w vA all B
 ga : ∀ k, vA.ownBlock = some k → B ≤ k ∧ ¬ N k
 nl : ∀ k, N k → B ≤ k ∧ k < w.heap.size ∧ k ≠ x ∧ k ≠ h ∧ k ≠ d
theorem LF.step {w w' : World} {B x h d p j : Nat} {vA : Value} {D D' : DV} {V V' : JV} {la de la' de' : Bool} {sure : Nat} {all : List (List Int)} {N : Nat → Prop} (l : LF w B x h d p j vA D V la de sure all N) (hJ : JDN w' j d p D' V' la' de' (JN2 N w.heap.size w'.heap.size)) (hg : Grown w w' N) : LF w' B x h d p j vA D' V' la' de' sure all (JN2 N w.heap.size w'.heap.size) := by
 have hd := l.jd.1.lt
 refine ⟨l.tab.grown hg fun e => by have := (l.nl 0 e).1; have := l.pos; omega, l.pos, Nat.le_trans l.siz hg.size, hg.blk l.bx fun e => (l.nl x e).2.2.1 rfl, l.xl, hg.blk l.bh fun e => (l.nl h e).2.2.2.1 rfl, hJ, l.ra.grown hg (fun k hk => (l.ga k hk).2) fun k hk => (l.nl k hk).1, fun k hk => ⟨(l.ga k hk).1, fun e => ?_⟩, fun k hk => ?_⟩
 ·have := (l.ra.typ hk).lt
  rcases e.1 with e1 | e1
  ·exact (l.ga k hk).2 e1
  ·omega
 ·have h1 := l.siz
  have h2 := l.bx.lt
  have h3 := l.bh.lt
  rcases hk.1 with e | e
  ·have := l.nl k e
   exact ⟨this.1, hk.2, this.2.2⟩
  ·exact ⟨by omega, hk.2, by omega, by omega, by omega⟩
theorem LF.put {w w' : World} {B x h d p j : Nat} {vA vA' : Value} {D : DV} {V : JV} {la de : Bool} {sure sure' : Nat} {all all' : List (List Int)} {N S : Nat → Prop} (l : LF w B x h d p j vA D V la de sure all N) (hg : Grown w w' S) (hS : ∀ k, S k → B ≤ k ∧ ¬ N k ∧ k ≠ h ∧ k ≠ d) (hb : Blk w' x 36 (lfA h d j vA' sure')) (ra : RwA w' vA' all' B) (ga : ∀ k, vA'.ownBlock = some k → B ≤ k ∧ ¬ N k) : LF w' B x h d p j vA' D V la de sure' all' N := by
 refine ⟨l.tab.grown hg fun e => by have := (hS 0 e).1; have := l.pos; omega, l.pos, Nat.le_trans l.siz hg.size, hb, l.xl, hg.blk l.bh fun e => (hS h e).2.2.1 rfl, l.jd.grown hg (fun e => (hS d e).2.2.2 rfl) (fun k hk e => (hS k e).2.1 hk), ra, ga, fun k hk => ?_⟩
 have := l.nl k hk
 exact ⟨this.1, Nat.lt_of_lt_of_le this.2.1 hg.size, this.2.2⟩
theorem LF.turn {w w1 w' : World} {B x h d p j j' : Nat} {vA vA' : Value} {D D' : DV} {V V' : JV} {la de la' de' : Bool} {sure sure' : Nat} {all all' : List (List Int)} {N : Nat → Prop} (l : LF w B x h d p j vA D V la de sure all N) (hJ : JDN w1 j' d p D' V' la' de' (JN2 N w.heap.size w1.heap.size)) (hg : Grown w w1 N) (hs : Grown w1 w' fun k => k = x) (hb : Blk w' x 36 (lfA h d j' vA' sure')) (ra : RwA w' vA' all' B) (hv : vA'.ownBlock = vA.ownBlock) : LF w' B x h d p j' vA' D' V' la' de' sure' all' (JN2 N w.heap.size w1.heap.size) := by
 have hd := l.jd.1.lt
 have hxN : ¬ N x := fun e => (l.nl x e).2.2.1 rfl
 have hx2 := l.bx.lt
 have hnx : ∀ k, JN2 N w.heap.size w1.heap.size k → ¬ k = x := fun k hk e => by
  subst e
  rcases hk.1 with e | e
  ·exact hxN e
  ·omega
 have t1 : Tab w1 := l.tab.grown hg fun e => by have := (l.nl 0 e).1; have := l.pos; omega
 have hxd : ¬ d = x := fun e => by
  have h1 := l.jd.1.typ
  rw [e] at h1
  have := h1.one l.bx.typ
  revert this
  decide
 have hxh : ¬ h = x := fun e => by
  have h1 := l.bh.typ
  rw [e] at h1
  have := h1.one l.bx.typ
  revert this
  decide
 refine ⟨t1.grown hs fun e => by have := l.xl; have := l.pos; omega, l.pos, Nat.le_trans l.siz (Nat.le_trans hg.size hs.size), hb, l.xl, hs.blk (hg.blk l.bh fun e => (l.nl h e).2.2.2.1 rfl) hxh, hJ.grown hs hxd hnx, ra, fun k hk => ?_, fun k hk => ?_⟩
 ·rw [hv] at hk
  have := (l.ra.typ hk).lt
  refine ⟨(l.ga k hk).1, fun e => ?_⟩
  rcases e.1 with e1 | e1
  ·exact (l.ga k hk).2 e1
  ·omega
 ·have h1 := l.siz
  have h3 := l.bh.lt
  have h4 := hs.size
  rcases hk.1 with e | e
  ·have := l.nl k e
   exact ⟨this.1, Nat.lt_of_lt_of_le hk.2 h4, this.2.2⟩
  ·exact ⟨by omega, Nat.lt_of_lt_of_le hk.2 h4, by omega, by omega, by omega⟩
theorem Tryd.in12 (w : World) (vs : Array Value) : (callFunc 12 vs).run Tryd.prog w = .ok (.enter 12 vs) w := by kernel_rfl
def AgPost (B x h d p sure : Nat) (D : DV) (all : List (List Int)) (w : World) (e : Ending) (w' : World) : Prop :=
 e = .returned (.bool true) ∧ ∃ (j' : Nat) (vA' : Value) (D' : DV) (V' : JV) (k : Nat) (N' : Nat → Prop), LF w' B x h d p j' vA' D' V' false false k (all.take k) N' ∧ JX D' V' false k ∧ V'.ps = all.take k ∧ sure ≤ k ∧ k ≤ all.length ∧ (D.acts ≤ D'.acts ∧ D'.acts ≤ D.acts + 300) ∧ Grown w w' fun k => B ≤ k
set_option maxRecDepth 8000 in
set_option maxHeartbeats 4000000 in
theorem again_life (B x h d p j : Nat) (vA vk : Value) (kp : List Int) (D : DV) (V : JV) (la de : Bool) (sure : Nat) (all : List (List Int)) (N : Nat → Prop) (w : World) (hL : LF w B x h d p j vA D V la de sure all N) (hC : CR D all sure) (hK : IntsB w vk kp B) (hA : D.acts ≤ 4611686018427380000) (hal : all.length ≤ 1000000000000) :
  Calls Tryd.prog 12 #[ptr x, vk] w (AgPost B x h d p sure D all w) := by
 obtain ⟨aa, ac, rfl⟩ := hL.ra.form
 obtain ⟨an, han⟩ : ∃ z, Keep (z = all.length) := ⟨_, ⟨rfl⟩⟩
 rw [← han.out] at hL
 have HNx : Keep (¬ N x ∧ ¬ N 0 ∧ ¬ N d) := ⟨fun e => (hL.nl x e).2.2.1 rfl, fun e => by have := (hL.nl 0 e).1; have := hL.pos; omega, fun e => (hL.nl d e).2.2.2.2 rfl⟩
 obtain ⟨_, vf, cs, vp, hD, _, _, hN⟩ := hL.jd
 have HD := Keep.mk hD
 have HN := Keep.mk hN
 have HL := Keep.mk hL
 have HC := Keep.mk hC
 have HK := Keep.mk hK
 have HA := Keep.mk hA
 have Hal := Keep.mk hal
 clear hL hC hK hA hD hN hal
 go_enter Tryd.func12, Tryd.ntmps12
 have c0 := HL.out.bx.c 0 (by rfl : (lfA h d j (.slice aa an ac) sure)[0]? = some (ptr h))
 refine wp_seq_k fun K1 hK1 => rgn ?_
 refine VlS (.bool false) ?_
 refine WL.nil (hK1 _ _ ?_)
 refine wp_seq_k fun K2 hK2 => rgn ?_
 refine VlS (.pointer (some ⟨x, 0, none⟩)) ?_
 refine VlS (.pointer (some ⟨x, 0, none⟩)) ?_
 refine VlS (.pointer (some ⟨x, 0, none⟩)) ?_
 refine VlS (.pointer (some ⟨h, 0, none⟩)) ?_
 refine VlS (vk) ?_
 refine WL.callF (by kernel_rfl) 14 _ _ rfl Tryd.in14 #[ptr h, vk] (by simp [Act.eval]) ?_
 refine (crash_any h p vk vf kp cs D w HL.out.bh HD.out HK.out.1 (fun hn k hk => by have h1 := HK.out.2 hn k hk; have h2 := (HL.out.nl p (HN.out p (.inl (.inl rfl)))).1; refine ⟨fun e => by omega, fun e => ?_⟩; have := (HL.out.nl k (HN.out k (.inl (.inr (.inl e))))).1; omega) (by rw [HD.out.fcs.len]; have := HC.out.ok.len; omega) (fun f hf => ⟨(HC.out.ok.sf f hf).1, (HC.out.ok.sf f hf).2, by have := HC.out.siz f hf; omega⟩) (by have := HC.out.ok.big; omega)).mono ?_
 rintro e w1 ⟨rfl, cs1, h1, h2, h3⟩
 refine ⟨_, rfl, ?_⟩
 have G1 : Keep (Grown w w1 N) := ⟨h2.mono fun k _ e => HN.out k (.inl (e.imp id .inl))⟩
 have N1 : Keep (∀ k, DskS p vf cs1 k → JN2 N w.heap.size w1.heap.size k) := ⟨fun k hk => ⟨by rcases h3 k hk with h | h; exact .inl (HN.out k (.inl h)); exact .inr h, h1.sLt hk⟩⟩
 have D1 : Keep (DskN w1 d p (D.crash kp) (JN2 N w.heap.size w1.heap.size)) := ⟨⟨G1.out.blk HL.out.jd.1 HNx.out.2.2, vf, cs1, h1, N1.out⟩⟩
 have X1 : Keep (Blk w1 x 36 (lfA h d j (.slice aa an ac) sure)) := ⟨G1.out.blk HL.out.bx HNx.out.1⟩
 clear h1 h2 h3 N1 c0
 have c1 := X1.out.c 1 (by rfl : (lfA h d j (.slice aa an ac) sure)[1]? = some (ptr d))
 simp only [Act.put, pqA, pqB, pqC]
 refine WL.nil (hK2 _ _ ?_)
 refine wp_seq_k fun K3 hK3 => rgn ?_
 refine VlS (.pointer (some ⟨x, 0, none⟩)) ?_
 refine VlS (.pointer (some ⟨x, 0, none⟩)) ?_
 refine VlS (.pointer (some ⟨x, 1, none⟩)) ?_
 refine VlS (.pointer (some ⟨d, 0, none⟩)) ?_
 refine WL.callF (by kernel_rfl) 7 _ _ rfl Tryd.in7 #[ptr d] (by simp [Act.eval]) ?_
 refine (open_any d p (D.crash kp) (JN2 N w.heap.size w1.heap.size) w1 (HL.out.tab.grown G1.out HNx.out.2.1) D1.out (fun e => by rcases e.1 with e | e; exact HNx.out.2.1 e; have := HL.out.pos; have := HL.out.siz; omega) (fun e => by rcases e.1 with e | e; exact HNx.out.2.2 e; have := HL.out.jd.1.lt; omega) (fun k hk => hk.2) (HC.out.ok.crash kp) rfl HA.out).mono ?_
 rintro e w2 ⟨ee, D', B2, h1, h2, h3, h4, h5, h6⟩
 have he0 : ee = 0 := (h1.fuse rfl).1
 subst he0
 rcases h6 with ⟨_, j2, vl, rfl, hj, hl⟩ | ⟨he, _⟩
 case inr => cases he
 obtain ⟨k, k1, k2, k3, k4, k5, k6⟩ := HC.out.opened h1
 have hkl : (openV (Fk (D.crash kp).fs)).ps.length = k := by rw [k3, List.length_take]; omega
 have HK1 : Keep (sure ≤ k ∧ k ≤ all.length ∧ (openV (Fk (D.crash kp).fs)).ps = all.take k) := ⟨k1, k2, k3⟩
 have HJI := Keep.mk k4
 have HSU := Keep.mk k5
 have HO2 := Keep.mk k6
 have HAc : Keep (D.acts ≤ D'.acts ∧ D'.acts ≤ D.acts + 300) := ⟨h1.acts⟩
 have G2 : Keep (Grown w w2 N) := ⟨G1.out.next h5 fun k hk e => e.1.elim id fun h => by omega⟩
 have J2 : Keep (JDN w2 j2 d p D' { (openV (Fk (D.crash kp).fs)) with torn := false } false false (JN2 N w.heap.size w2.heap.size)) := ⟨by
  obtain ⟨a1, vf2, cs2, a2, a3⟩ := h4
  obtain ⟨b0, vp, b1, b2, b3⟩ := hj
  have hs1 := G1.out.size
  refine ⟨a1, vf2, cs2, vp, a2, b1, b2, fun k hk => ?_⟩
  rcases hk with hk | rfl | hk
  ·have := a3 k hk
   refine ⟨?_, this.2⟩
   rcases this.1 with h | h
   ·exact h.1
   ·exact .inr (by omega)
  ·exact ⟨.inr (by omega), by omega⟩
  ·have := b3 k hk
   exact ⟨.inr (by omega), by omega⟩⟩
 obtain ⟨xa, xc, rfl⟩ := hl.form
 obtain ⟨pa, pc, cj⟩ := hj.cell
 rw [openV_len, hkl] at cj
 rw [hkl]
 have HR2 : Keep (RwsAt w2 (.slice xa k xc) (all.take k)) := ⟨by have h := hl.rws; rw [hkl] at h; rw [k3] at h; exact h⟩
 have X2 : Keep (Blk w2 x 36 (lfA h d j (.slice aa an ac) sure)) := ⟨G2.out.blk HL.out.bx HNx.out.1⟩
 have A2 : Keep (RwA w2 (.slice aa an ac) all B) := ⟨HL.out.ra.grown G2.out (fun k hk => (HL.out.ga k hk).2) fun k hk => (HL.out.nl k hk).1⟩
 clear h1 h2 h3 h4 h5 hj hl hkl k3 k4 k5 k6 c1 D1 X1 G1
 have e3 := X2.out.c 3 (by rfl : (lfA h d j (.slice aa an ac) sure)[3]? = some (.slice aa an ac))
 have e4 := X2.out.c 4 (by rfl : (lfA h d j (.slice aa an ac) sure)[4]? = some (.int .i64 (sure : Int)))
 have hk1 : ¬ (k : Int) < (sure : Int) := by omega
 have hk2 : ¬ (an : Int) < (k : Int) := by have := han.out; omega
 refine ⟨_, rfl, ?_⟩
 simp only [Act.put, pqA, pqB, pqC]
 refine VlS (.tuple #[.pointer (some ⟨j2, 0, none⟩), .slice xa k xc, .int .i64 0]) ?_
 refine VlS (.pointer (some ⟨j2, 0, none⟩)) ?_
 refine VlS (.slice xa k xc) ?_
 refine VlS (.int .i64 0) ?_
 refine VlS (.pointer (some ⟨j2, 0, none⟩)) ?_
 refine VlS (.slice xa k xc) ?_
 refine VlS (.int .i64 0) ?_
 refine WL.nil (hK3 _ _ ?_)
 refine wp_seq_k fun K4 hK4 => ?_
 refine wp_seq_k fun K5 hK5 => rgn ?_
 refine VlS (.int .i64 0) ?_
 refine VlS (.bool false) ?_
 refine VlS (.bool false) ?_
 refine VlS (.pointer (some ⟨j2, 0, none⟩)) ?_
 refine VlS (.bool false) ?_
 refine VlS (.bool false) ?_
 refine VlS (.bool false) ?_
 refine VlS (.slice xa k xc) ?_
 refine VlS (.int .i64 (k : Int)) ?_
 refine VlS (.pointer (some ⟨x, 0, none⟩)) ?_
 refine VlS (.pointer (some ⟨x, 0, none⟩)) ?_
 refine VlS (.pointer (some ⟨x, 4, none⟩)) ?_
 refine VlS (.int .i64 (sure : Int)) ?_
 refine VlS (.bool false) ?_
 refine VlS (.bool false) ?_
 refine VlS (.bool false) ?_
 refine VlS (.slice xa k xc) ?_
 refine VlS (.int .i64 (k : Int)) ?_
 refine VlS (.pointer (some ⟨x, 0, none⟩)) ?_
 refine VlS (.pointer (some ⟨x, 0, none⟩)) ?_
 refine VlS (.pointer (some ⟨x, 3, none⟩)) ?_
 refine VlS (.slice aa an ac) ?_
 refine VlS (.int .i64 (an : Int)) ?_
 refine VlS (.bool false) ?_
 refine VlS (.bool false) ?_
 refine VlS (.bool false) ?_
 refine VlS (.pointer (some ⟨j2, 0, none⟩)) ?_
 refine WL.callF (by kernel_rfl) 26 _ _ rfl Tryd.in26 #[ptr j2] (by simp [Act.eval]) ?_
 refine (len_any j2 pa k pc w2 cj).mono ?_
 rintro e w3 ⟨rfl, hw⟩
 refine ⟨_, rfl, ?_⟩
 obtain rfl : w2 = w3 := hw.symm
 clear hw
 simp only [Act.put, pqA, pqB, pqC]
 refine VlS (.slice xa k xc) ?_
 refine VlS (.int .i64 (k : Int)) ?_
 refine VlS (.bool false) ?_
 refine VlS (.bool false) ?_
 refine WL.nil (hK5 _ _ ?_)
 refine wp_cond_false rfl ?_
 refine wp_skip ?_
 refine hK4 _ _ ?_
 refine wp_seq_k fun K6 hK6 => ?_
 refine wp_seq_k fun K7 hK7 => rgn ?_
 refine VlS (.slice xa k xc) ?_
 refine VlS (.int .i64 (k : Int)) ?_
 refine VlS (.int .i64 0) ?_
 refine WL.nil (hK7 _ _ ?_)
 refine wp_block ?_
 clear e3 e4 hk1 hk2 cj k1 k2
 refine wp_loop (fun acx wr => ∃ (t : Nat) (y4 y8 y9 y60 y61 y62 y63 y64 y65 y66 y67 y68 y69 y70 y71 y72 y73 y74 y75 : Value), acx = { tmps := #[.pointer (some ⟨x, 0, none⟩), vk, undef, undef, y4, .pointer (some ⟨j2, 0, none⟩), .slice xa k xc, .int .i64 0, y8, y9, .pointer (some ⟨x, 0, none⟩), .pointer (some ⟨x, 0, none⟩), .pointer (some ⟨x, 0, none⟩), .pointer (some ⟨h, 0, none⟩), vk, undef, .tuple #[.pointer (some ⟨j2, 0, none⟩), .slice xa k xc, .int .i64 0], .pointer (some ⟨x, 0, none⟩), .pointer (some ⟨x, 0, none⟩), .pointer (some ⟨x, 1, none⟩), .pointer (some ⟨d, 0, none⟩), .tuple #[.pointer (some ⟨j2, 0, none⟩), .slice xa k xc, .int .i64 0], .pointer (some ⟨j2, 0, none⟩), .slice xa k xc, .int .i64 0, .int .i64 0, .bool false, .bool false, .pointer (some ⟨j2, 0, none⟩), .bool false, .bool false, .bool false, .slice xa k xc, .int .i64 (k : Int), .pointer (some ⟨x, 0, none⟩), .pointer (some ⟨x, 0, none⟩), .pointer (some ⟨x, 4, none⟩), .int .i64 (sure : Int), .bool false, .bool false, .bool false, .slice xa k xc, .int .i64 (k : Int), .pointer (some ⟨x, 0, none⟩), .pointer (some ⟨x, 0, none⟩), .pointer (some ⟨x, 3, none⟩), .slice aa an ac, .int .i64 (an : Int), .bool false, .bool false, .bool false, .pointer (some ⟨j2, 0, none⟩), .int .i64 (k : Int), .slice xa k xc, .int .i64 (k : Int), .bool false, .bool false, .slice xa k xc, .int .i64 (k : Int), .int .i64 (t : Int), y60, y61, y62, y63, y64, y65, y66, y67, y68, y69, y70, y71, y72, y73, y74, y75, undef, undef, undef, undef, undef, undef, undef, undef, undef, undef, undef, undef, undef, undef, undef, undef, undef, undef, undef, undef, undef], defers := [] } ∧ t ≤ k ∧ Below w2.heap.size w2 wr) (fun acx _ => k - (intOf (acx.tmps.getD 59 undef)).toNat) ⟨0, .bool false, undef, undef, undef, undef, undef, undef, undef, undef, undef, undef, undef, undef, undef, undef, undef, undef, undef, undef, rfl, Nat.zero_le _, Below.refl _ _⟩ ?_
 rintro acx wr ⟨t, y4, y8, y9, y60, y61, y62, y63, y64, y65, y66, y67, y68, y69, y70, y71, y72, y73, y74, y75, rfl, ht, hB⟩
 have JB := Keep.mk hB
 clear hB
 have X3 : Keep (Blk wr x 36 (lfA h d j (.slice aa an ac) sure)) := ⟨X2.out.below JB.out X2.out.lt⟩
 by_cases hlt : t < k
 ·have hlt' : (t : Int) < (k : Int) := by omega
  have hla : t < an := by have := HK1.out.2.1; have := han.out; omega
  have hla' : (t : Int) < (an : Int) := by omega
  have hwt : IntKind.i64.wrap ((t : Int) + 1) = (t : Int) + 1 := by rw [IntKind.wrap_i64]; have := HK1.out.2.1; have := Hal.out; omega
  obtain ⟨b, ob, ya, yc, hq, -, y1, y2⟩ := (HR2.out.below JB.out).at t (by rw [List.length_take]; have := HK1.out.2.1; omega)
  subst hq
  obtain ⟨b2, ob2, za, zc, hq2, -, z1, z2⟩ := (A2.out.rws.below JB.out).at t (by have := han.out; omega)
  subst hq2
  have hgt : (all.take k).getD t [] = all.getD t [] := by rw [List.getD_eq_getElem?_getD, List.getElem?_take, if_pos hlt, ← List.getD_eq_getElem?_getD]
  rw [hgt] at y1 y2
  obtain ⟨st, hst⟩ : ∃ st, strOfNums (all.getD t []) = st := ⟨_, rfl⟩
  have Hst := Keep.mk hst
  clear hst hgt
  obtain ⟨M, hM⟩ : ∃ N, N = (all.getD t []).length := ⟨_, rfl⟩
  rw [← hM] at y1 y2 z1 z2
  clear hM
  have HS0 : Keep ((wr.drew).cell? ⟨x, 3, none⟩ = some (.slice (some ⟨b2, ob2, none⟩) an ac) ∧ (wr.drew).cell? ⟨b2, ob2 + t, none⟩ = some (.slice za M zc) ∧ RowAt wr.drew (.slice ya M yc) (all.getD t []) ∧ RowAt wr.drew (.slice za M zc) (all.getD t [])) := ⟨⟨X3.out.drew.c 3 rfl, z1, y2, z2⟩⟩
  clear z1 y2 z2
  refine wp_seq_k fun K8 hK8 => rgn ?_
  refine VlS (.bool true) ?_
  refine WL.nil (hK8 _ _ ?_)
  refine wp_seq_k fun K9 hK9 => ?_
  refine wp_cond_true rfl ?_
  refine wp_skip ?_
  refine hK9 _ _ ?_
  refine wp_seq_k fun K10 hK10 => ?_
  refine wp_block ?_
  refine wp_seq_k fun K11 hK11 => rgn ?_
  refine VlS (.int .i64 (t : Int)) ?_
  refine VlS (.pointer (some ⟨b, ob + t, none⟩)) ?_
  refine VlS (.slice ya M yc) ?_
  refine VlS (.int .i64 (t : Int)) ?_
  refine VlS (.slice ya M yc) ?_
  refine WL.nil (hK11 _ _ ?_)
  refine wp_seq_k fun K12 hK12 => ?_
  clear y1
  refine wp_region_held_drew (S := fun wx => wx.cell? ⟨x, 3, none⟩ = some (.slice (some ⟨b2, ob2, none⟩) an ac) ∧ wx.cell? ⟨b2, ob2 + t, none⟩ = some (.slice za M zc) ∧ RowAt wx (.slice ya M yc) (all.getD t []) ∧ RowAt wx (.slice za M zc) (all.getD t [])) (by kernel_rfl) (HS0.out) (fun hHeld => ?_)
  refine tkS (i := 0) (oi := ⟨some 64, Op.move (Operand.tmp 9), 37, _, _, none⟩) (v := .slice ya M yc) rfl (Or.inl ⟨by rfl, fun w hS => by go_simp⟩) hHeld ?_
  refine tkS (i := 1) (oi := ⟨some 65, Op.convert 37 9 (Operand.tmp 64), 9, _, _, none⟩) (v := .string st) rfl (Or.inl ⟨by rfl, fun w hS => by have h1 := conv_row _ _ w hS.2.2.1; rw [Hst.out] at h1; clear hS; go_simp⟩) hHeld ?_
  refine tkS (i := 2) (oi := ⟨some 66, Op.move (Operand.tmp 0), 34, _, _, none⟩) (v := .pointer (some ⟨x, 0, none⟩)) rfl (Or.inl ⟨by rfl, fun w hS => by go_simp⟩) hHeld ?_
  refine tkS (i := 3) (oi := ⟨some 67, Op.nilCheck (Operand.tmp 66), 0, _, _, none⟩) (v := .pointer (some ⟨x, 0, none⟩)) rfl (Or.inl ⟨by rfl, fun w hS => by go_simp⟩) hHeld ?_
  refine tkS (i := 4) (oi := ⟨some 68, Op.fieldAddr 36 (Operand.tmp 67) 3, 0, _, _, none⟩) (v := .pointer (some ⟨x, 3, none⟩)) rfl (Or.inl ⟨by rfl, fun w hS => by go_simp⟩) hHeld ?_
  refine tkS (i := 5) (oi := ⟨some 69, Op.load 23 (Operand.tmp 68), 23, _, _, none⟩) (v := .slice (some ⟨b2, ob2, none⟩) an ac) rfl (Or.inl ⟨by rfl, fun w hS => by have h := hS.1; clear hS; go_simp⟩) hHeld ?_
  refine tkS (i := 6) (oi := ⟨some 70, Op.move (Operand.tmp 8), 3, _, _, none⟩) (v := .int .i64 (t : Int)) rfl (Or.inl ⟨by rfl, fun w hS => by go_simp⟩) hHeld ?_
  refine tkS (i := 7) (oi := ⟨some 71, Op.indexAddr 23 (Operand.tmp 69) (Operand.tmp 70), 0, _, _, none⟩) (v := .pointer (some ⟨b2, ob2 + t, none⟩)) rfl (Or.inl ⟨by rfl, fun w hS => by go_simp⟩) hHeld ?_
  refine tkS (i := 8) (oi := ⟨some 72, Op.load 37 (Operand.tmp 71), 37, _, _, none⟩) (v := .slice za M zc) rfl (Or.inl ⟨by rfl, fun w hS => by have h := hS.2.1; clear hS; go_simp⟩) hHeld ?_
  refine tkS (i := 9) (oi := ⟨some 73, Op.convert 37 9 (Operand.tmp 72), 9, _, _, none⟩) (v := .string st) rfl (Or.inl ⟨by rfl, fun w hS => by have h1 := conv_row _ _ w hS.2.2.2; rw [Hst.out] at h1; clear hS; go_simp⟩) hHeld ?_
  refine tkS (i := 10) (oi := ⟨some 74, Op.binOp BinOp.neq 9 (Operand.tmp 65) (Operand.tmp 73) 9, 4, _, _, none⟩) (v := .bool false) rfl (Or.inl ⟨by rfl, fun w hS => by have h1 := bs_refl st; clear hS; go_simp⟩) hHeld ?_
  refine wpAnyH_done (by kernel_rfl) ?_ _
  refine hK12 _ _ ?_
  refine wp_cond_false rfl ?_
  refine wp_skip ?_
  refine hK10 _ _ ?_
  refine rgn ?_
  refine VlS (.int .i64 ((t : Int) + 1)) ?_
  refine VlS (.int .i64 ((t : Int) + 1)) ?_
  refine WL.nil ?_
  refine ⟨⟨t + 1, y4, .int .i64 (t : Int), .slice ya M yc, .bool true, .int .i64 (t : Int), .pointer (some ⟨b, ob + t, none⟩), .slice ya M yc, .slice ya M yc, .string st, .pointer (some ⟨x, 0, none⟩), .pointer (some ⟨x, 0, none⟩), .pointer (some ⟨x, 3, none⟩), .slice (some ⟨b2, ob2, none⟩) an ac, .int .i64 (t : Int), .pointer (some ⟨b2, ob2 + t, none⟩), .slice za M zc, .string st, .bool false, .int .i64 ((t : Int) + 1), rfl, by omega, JB.out.drew⟩, by simp only [intOf]; show k - ((t : Int) + 1).toNat < k - ((t : Int)).toNat; omega⟩
 ·have htl' : ¬ (t : Int) < (k : Int) := by omega
  refine wp_seq_k fun K13 hK13 => rgn ?_
  refine VlS (.bool false) ?_
  refine WL.nil (hK13 _ _ ?_)
  refine wp_seq_k fun K14 hK14 => ?_
  refine wp_cond_false rfl ?_
  refine wp_exit ?_
  refine hK6 _ _ ?_
  refine wp_seq_k fun K15 hK15 => ?_
  have X4 : Keep (Blk wr.drew x 36 (lfA h d j (.slice aa an ac) sure)) := ⟨X3.out.drew⟩
  have B4 : Keep (Below w2.heap.size w2 wr.drew) := ⟨JB.out.drew⟩
  have A4 : Keep (RwA wr.drew (.slice aa an ac) all B) := ⟨A2.out.grown (Grown.below (S := fun _ => False) B4.out) (fun _ _ h => h) fun _ h => h.elim⟩
  clear X3 JB A2 X2
  refine wp_region_held_drew (S := fun _ => True) (by kernel_rfl) True.intro (fun hHeld => ?_)
  generalize wr.drew = w4 at *
  refine tkS (i := 0) (oi := ⟨some 76, Op.move (Operand.tmp 0), 34, _, _, none⟩) (v := .pointer (some ⟨x, 0, none⟩)) rfl (Or.inl ⟨by rfl, fun w hS => by go_simp⟩) hHeld ?_
  refine tkS (i := 1) (oi := ⟨some 77, Op.move (Operand.tmp 0), 34, _, _, none⟩) (v := .pointer (some ⟨x, 0, none⟩)) rfl (Or.inl ⟨by rfl, fun w hS => by go_simp⟩) hHeld ?_
  refine tkS (i := 2) (oi := ⟨some 78, Op.move (Operand.tmp 0), 34, _, _, none⟩) (v := .pointer (some ⟨x, 0, none⟩)) rfl (Or.inl ⟨by rfl, fun w hS => by go_simp⟩) hHeld ?_
  refine tkS (i := 3) (oi := ⟨some 79, Op.move (Operand.tmp 5), 22, _, _, none⟩) (v := .pointer (some ⟨j2, 0, none⟩)) rfl (Or.inl ⟨by rfl, fun w hS => by go_simp⟩) hHeld ?_
  refine tkS (i := 4) (oi := ⟨some 80, Op.move (Operand.tmp 0), 34, _, _, none⟩) (v := .pointer (some ⟨x, 0, none⟩)) rfl (Or.inl ⟨by rfl, fun w hS => by go_simp⟩) hHeld ?_
  refine tkS (i := 5) (oi := ⟨some 81, Op.nilCheck (Operand.tmp 80), 0, _, _, none⟩) (v := .pointer (some ⟨x, 0, none⟩)) rfl (Or.inl ⟨by rfl, fun w hS => by go_simp⟩) hHeld ?_
  refine tkS (i := 6) (oi := ⟨some 82, Op.fieldAddr 36 (Operand.tmp 81) 3, 0, _, _, none⟩) (v := .pointer (some ⟨x, 3, none⟩)) rfl (Or.inl ⟨by rfl, fun w hS => by go_simp⟩) hHeld ?_
  refine tkS (i := 8) (oi := ⟨some 84, Op.move (Operand.tmp 6), 23, _, _, none⟩) (v := .slice xa k xc) rfl (Or.inl ⟨by rfl, fun w hS => by go_simp⟩) hHeld ?_
  refine tkS (i := 9) (oi := ⟨some 85, Op.call { callee := Callee.builtin Builtin.len, args := #[Operand.tmp 84], argTypes := #[23] }, 3, _, _, none⟩) (v := .int .i64 (k : Int)) rfl (Or.inl ⟨by rfl, fun w hS => by go_simp⟩) hHeld ?_
  refine tkS (i := 10) (oi := ⟨some 86, Op.move (Operand.tmp 6), 23, _, _, none⟩) (v := .slice xa k xc) rfl (Or.inl ⟨by rfl, fun w hS => by go_simp⟩) hHeld ?_
  refine tkS (i := 11) (oi := ⟨some 87, Op.call { callee := Callee.builtin Builtin.len, args := #[Operand.tmp 86], argTypes := #[23] }, 3, _, _, none⟩) (v := .int .i64 (k : Int)) rfl (Or.inl ⟨by rfl, fun w hS => by go_simp⟩) hHeld ?_
  refine tkS (i := 13) (oi := ⟨some 89, Op.move (Operand.tmp 6), 23, _, _, none⟩) (v := .slice xa k xc) rfl (Or.inl ⟨by rfl, fun w hS => by go_simp⟩) hHeld ?_
  refine tkS (i := 14) (oi := ⟨some 90, Op.call { callee := Callee.builtin Builtin.len, args := #[Operand.tmp 89], argTypes := #[23] }, 3, _, _, none⟩) (v := .int .i64 (k : Int)) rfl (Or.inl ⟨by rfl, fun w hS => by go_simp⟩) hHeld ?_
  refine wpAnyH_ready (rs := [7]) (by kernel_rfl) (by simp) ?_
  refine AllReadyH.cons (o := ⟨some 83, Op.load 23 (Operand.tmp 82), 23, _, _, none⟩) rfl (fun K hK => ?_) AllReadyH.nil
  rw [if_pos (by rfl)]
  have cl : w4.cell? ⟨x, 3, none⟩ = some (.slice aa an ac) := X4.out.c 3 rfl
  refine wp_val (.slice aa an ac) (by go_simp) ?_
  clear cl
  refine hK _ _ True.intro fun hL4 => ?_
  clear hK
  simp only [Act.put, pqA, pqB, pqC]
  refine tkS (i := 12) (oi := ⟨some 88, Op.slice 23 (Operand.tmp 83) none (some (Operand.tmp 85)) (some (Operand.tmp 87)), 23, _, _, none⟩) (v := .slice aa k k) rfl (yieldsIf_slice3 (by rfl) 23 (.tmp 83) (.tmp 85) (.tmp 87) rfl (.slice aa an ac) (.int .i64 (k : Int)) (.int .i64 (k : Int)) (.slice aa k k) rfl rfl rfl (sl_run3 aa an ac k (A4.out.take k HK1.out.2.1).2)) hL4 ?_
  refine tkS (i := 15) (oi := ⟨some 91, Op.nilCheck (Operand.tmp 76), 0, _, _, none⟩) (v := .pointer (some ⟨x, 0, none⟩)) rfl (Or.inl ⟨by rfl, fun w hS => by go_simp⟩) hL4 ?_
  refine tkS (i := 16) (oi := ⟨some 92, Op.fieldAddr 36 (Operand.tmp 91) 2, 0, _, _, none⟩) (v := .pointer (some ⟨x, 2, none⟩)) rfl (Or.inl ⟨by rfl, fun w hS => by go_simp⟩) hL4 ?_
  refine wpAnyH_ready (rs := [17]) (by kernel_rfl) (by simp) ?_
  refine AllReadyH.cons (o := ⟨none, Op.store 22 (Operand.tmp 92) (Operand.tmp 79), 0, _, _, none⟩) rfl (fun K hK => ?_) AllReadyH.nil
  rw [if_pos (by rfl)]
  have f_o := X4.out.frozen 2
  have cl : w4.cell? ⟨x, 2, none⟩ = some (ptr j) := X4.out.c 2 rfl
  refine wp_cellS (w4.setCell ⟨x, 2, none⟩ (ptr j2)) (by go_simp) ?_
  clear f_o cl
  have hgs : Grown w4 (w4.setCell ⟨x, 2, none⟩ (ptr j2)) fun k => k = x := Grown.setCell w4 x 2 _ fun _ => rfl
  have GX5 : Keep (Grown w4 (w4.setCell ⟨x, 2, none⟩ (ptr j2)) fun k => k = x) := ⟨hgs⟩
  have X5 : Keep (Blk (w4.setCell ⟨x, 2, none⟩ (ptr j2)) x 36 (lfA h d j2 (.slice aa an ac) sure)) := ⟨X4.out.set 2 (ptr j2)⟩
  clear hgs X4
  generalize (w4.setCell ⟨x, 2, none⟩ (ptr j2)) = w5 at *
  refine hK _ _ True.intro fun hS5 => ?_
  clear hK
  simp only [Act.put, pqA, pqB, pqC]
  refine tkS (i := 18) (oi := ⟨some 93, Op.nilCheck (Operand.tmp 77), 0, _, _, none⟩) (v := .pointer (some ⟨x, 0, none⟩)) rfl (Or.inl ⟨by rfl, fun w hS => by go_simp⟩) hS5 ?_
  refine tkS (i := 19) (oi := ⟨some 94, Op.fieldAddr 36 (Operand.tmp 93) 3, 0, _, _, none⟩) (v := .pointer (some ⟨x, 3, none⟩)) rfl (Or.inl ⟨by rfl, fun w hS => by go_simp⟩) hS5 ?_
  refine wpAnyH_ready (rs := [20]) (by kernel_rfl) (by simp) ?_
  refine AllReadyH.cons (o := ⟨none, Op.store 23 (Operand.tmp 94) (Operand.tmp 88), 0, _, _, none⟩) rfl (fun K hK => ?_) AllReadyH.nil
  rw [if_pos (by rfl)]
  have f_o := X5.out.frozen 3
  have cl : w5.cell? ⟨x, 3, none⟩ = some (.slice aa an ac) := X5.out.c 3 rfl
  refine wp_cellS (w5.setCell ⟨x, 3, none⟩ (.slice aa k k)) (by go_simp) ?_
  clear f_o cl
  have hgs : Grown w5 (w5.setCell ⟨x, 3, none⟩ (.slice aa k k)) fun k => k = x := Grown.setCell w5 x 3 _ fun _ => rfl
  have GX6 : Keep (Grown w4 (w5.setCell ⟨x, 3, none⟩ (.slice aa k k)) fun k => k = x) := ⟨GX5.out.trans hgs⟩
  have X6 : Keep (Blk (w5.setCell ⟨x, 3, none⟩ (.slice aa k k)) x 36 (lfA h d j2 (.slice aa k k) sure)) := ⟨X5.out.set 3 (.slice aa k k)⟩
  clear hgs X5
  generalize (w5.setCell ⟨x, 3, none⟩ (.slice aa k k)) = w6 at *
  refine hK _ _ True.intro fun hS6 => ?_
  clear hK
  simp only [Act.put, pqA, pqB, pqC]
  refine tkS (i := 21) (oi := ⟨some 95, Op.nilCheck (Operand.tmp 78), 0, _, _, none⟩) (v := .pointer (some ⟨x, 0, none⟩)) rfl (Or.inl ⟨by rfl, fun w hS => by go_simp⟩) hS6 ?_
  refine tkS (i := 22) (oi := ⟨some 96, Op.fieldAddr 36 (Operand.tmp 95) 4, 0, _, _, none⟩) (v := .pointer (some ⟨x, 4, none⟩)) rfl (Or.inl ⟨by rfl, fun w hS => by go_simp⟩) hS6 ?_
  refine wpAnyH_ready (rs := [23]) (by kernel_rfl) (by simp) ?_
  refine AllReadyH.cons (o := ⟨none, Op.store 3 (Operand.tmp 96) (Operand.tmp 90), 0, _, _, none⟩) rfl (fun K hK => ?_) AllReadyH.nil
  rw [if_pos (by rfl)]
  have f_o := X6.out.frozen 4
  have cl : w6.cell? ⟨x, 4, none⟩ = some (.int .i64 (sure : Int)) := X6.out.c 4 rfl
  refine wp_cellS (w6.setCell ⟨x, 4, none⟩ (.int .i64 (k : Int))) (by go_simp) ?_
  clear f_o cl
  have hgs : Grown w6 (w6.setCell ⟨x, 4, none⟩ (.int .i64 (k : Int))) fun k => k = x := Grown.setCell w6 x 4 _ fun _ => rfl
  have GX7 : Keep (Grown w4 (w6.setCell ⟨x, 4, none⟩ (.int .i64 (k : Int))) fun k => k = x) := ⟨GX6.out.trans hgs⟩
  have X7 : Keep (Blk (w6.setCell ⟨x, 4, none⟩ (.int .i64 (k : Int))) x 36 (lfA h d j2 (.slice aa k k) k)) := ⟨X6.out.set 4 (.int .i64 (k : Int))⟩
  clear hgs X6
  generalize (w6.setCell ⟨x, 4, none⟩ (.int .i64 (k : Int))) = w7 at *
  refine hK _ _ True.intro fun hS7 => ?_
  clear hK
  simp only [Act.put, pqA, pqB, pqC]
  refine wpAnyH_done (by kernel_rfl) ?_ _
  refine hK15 _ _ ?_
  refine wp_seq_k fun K16 hK16 => rgn ?_
  refine VlS (.bool true) ?_
  refine WL.nil (hK16 _ _ ?_)
  refine wp_ret ?_
  go_ret
  have hk4 := A4.out.take k HK1.out.2.1
  have hgr : Grown w2 w7 fun k => k = x := (Grown.below B4.out).trans GX7.out
  refine ⟨rfl, j2, .slice aa k k, D', _, k, _, HL.out.turn J2.out G2.out hgr X7.out (hk4.1.grown GX7.out (fun kk hkk e => ?_) fun kk e => by rw [e]; exact HL.out.xl) (by cases aa <;> rfl), ⟨HJI.out, HSU.out, fun _ => ?_, (fun h => by cases h), HO2.out⟩, ?_, HK1.out.1, HK1.out.2.1, HAc.out, ?_⟩
  ·subst e
   have h1 := HL.out.ra.typ (k := kk) (by cases aa <;> exact hkk)
   have := h1.one HL.out.bx.typ
   revert this
   decide
  ·have := HSU.out
   show SU _ _ (openV (Fk (D.crash kp).fs)).ps.length
   rw [HK1.out.2.2, List.length_take, Nat.min_eq_left HK1.out.2.1]
   exact this
  ·exact HK1.out.2.2
  ·exact (G2.out.mono fun kk _ e => (HL.out.nl kk e).1).next hgr fun kk _ e => by rw [e]; exact HL.out.xl
theorem Tryd.in11 (w : World) (vs : Array Value) : (callFunc 11 vs).run Tryd.prog w = .ok (.enter 11 vs) w := by kernel_rfl
theorem LF.below {w w' : World} {B x h d p j : Nat} {vA : Value} {D : DV} {V : JV} {la de : Bool} {sure : Nat} {all : List (List Int)} {N : Nat → Prop} (l : LF w B x h d p j vA D V la de sure all N) (hb : Below w.heap.size w w') : LF w' B x h d p j vA D V la de sure all N :=
 l.put (Grown.below (S := fun _ => False) hb) (fun _ e => e.elim) (l.bx.below hb l.bx.lt) (l.ra.grown (Grown.below (S := fun _ => False) hb) (fun _ _ e => e) fun _ e => e.elim) l.ga
theorem LF.drew {w : World} {B x h d p j : Nat} {vA : Value} {D : DV} {V : JV} {la de : Bool} {sure : Nat} {all : List (List Int)} {N : Nat → Prop} (l : LF w B x h d p j vA D V la de sure all N) : LF w.drew B x h d p j vA D V la de sure all N := l.below (Below.refl _ _).drew
theorem LF.lenj {w : World} {B x h d p j : Nat} {vA : Value} {D : DV} {V : JV} {la de : Bool} {sure : Nat} {all : List (List Int)} {N : Nat → Prop} {lb : Bool} {s : Nat} (l : LF w B x h d p j vA D V la de sure all N) (hX : JX D V lb s) (hp : V.ps = all) : ∃ pa pc, w.cell? ⟨j, 1, none⟩ = some (.slice pa all.length pc) := by
 obtain ⟨_, vf, cs, vp, _, h1, h2, _⟩ := l.jd
 obtain ⟨a, c, rfl⟩ := h2.sl
 refine ⟨a, c, ?_⟩
 rw [← hp, ← hX.ji.few.2]
 exact h1.c 1 rfl
theorem JX.fuse {D : DV} {V : JV} {la : Bool} {sure : Nat} (h : JX D V la sure) (n : Int) (hn : -1 ≤ n ∧ n ≤ 9223372036854775807) : JX { D with fuse := n } V la sure :=
 ⟨⟨⟨h.ji.ok.srt, h.ji.ok.len, h.ji.ok.sf, h.ji.ok.byt, h.ji.ok.used, h.ji.ok.big, h.ji.ok.acts, hn⟩, h.ji.rd, h.ji.tn, h.ji.hi, h.ji.nm, h.ji.lo, h.ji.room, h.ji.siz⟩, h.su, h.ls, h.lp, h.out⟩
def DoPost (B x h d p : Nat) (D : DV) (w : World) (e : Ending) (w' : World) : Prop :=
 e = .returned (.bool true) ∧ ∃ (j' : Nat) (vA' : Value) (D' : DV) (V' : JV) (la' : Bool) (sure' : Nat) (all' : List (List Int)) (N' : Nat → Prop), LF w' B x h d p j' vA' D' V' la' false sure' all' N' ∧ JX D' V' la' sure' ∧ V'.ps = all' ∧ (D.acts ≤ D'.acts ∧ D'.acts ≤ D.acts + 700) ∧ Grown w w' fun k => B ≤ k
set_option maxRecDepth 8000 in
set_option maxHeartbeats 4000000 in
theorem does_other (B x h d p j : Nat) (vA vk : Value) (kp : List Int) (nn : Int) (ba : Option Addr) (bl : List Int) (bc : Nat) (ka : Option Addr) (kl : List Int) (kc : Nat) (D : DV) (V : JV) (la : Bool) (sure : Nat) (all : List (List Int)) (N : Nat → Prop) (w : World) (hL : LF w B x h d p j vA D V la false sure all N) (hX : JX D V la sure) (hP : V.ps = all) (hK : IntsB w vk kp B) (hKs : IntsB w (.slice ka kl.length kc) kl B) (hR : RowB w (.slice ba bl.length bc) bl B) (hBy : Byts bl) (hn : nn ≤ 9223372036854775807) (hA : D.acts ≤ 4611686018427370000) (kd : Int) (hkd : ¬ kd = 1 ∧ ¬ kd = 2 ∧ ¬ kd = 3 ∧ ¬ kd = 4 ∧ ¬ kd = 5) : Calls Tryd.prog 11 #[ptr x, .agg #[.int .i64 kd, .int .i64 nn, .slice ba bl.length bc, .slice ka kl.length kc], vk] w (DoPost B x h d p D w) := by
 obtain ⟨aa, ac, rfl⟩ := hL.ra.form
 obtain ⟨an, han⟩ : ∃ z, Keep (z = all.length) := ⟨_, ⟨rfl⟩⟩
 rw [← han.out] at hL
 have Hal : Keep (all.length ≤ 285216768) := ⟨by rw [← hP]; exact hX.ji.few.1⟩
 have HL := Keep.mk hL
 have HX := Keep.mk hX
 have HP := Keep.mk hP
 have HK := Keep.mk hK
 have HKs := Keep.mk hKs
 have HR := Keep.mk hR
 have HBy := Keep.mk hBy
 have Hn := Keep.mk hn
 have HA := Keep.mk hA
 have HNx : Keep (¬ N x ∧ ¬ N 0 ∧ ¬ N d) := ⟨fun e => (hL.nl x e).2.2.1 rfl, fun e => by have := (hL.nl 0 e).1; have := hL.pos; omega, fun e => (hL.nl d e).2.2.2.2 rfl⟩
 clear hL hX hP hK hKs hR hBy hn hA
 have Hkd := Keep.mk hkd
 clear hkd
 go_enter Tryd.func11, Tryd.ntmps11
 obtain ⟨hk1, hk2, hk3, hk4, hk5⟩ := Hkd.out
 refine wp_seq_k fun K1 hK1 => rgn ?_
 refine WL.box (by kernel_rfl) 39 (.tmp 1) rfl #[.int .i64 kd, .int .i64 nn, .slice ba bl.length bc, .slice ka kl.length kc] rfl ?_
 have hbx := below_new w (.cells #[.int .i64 kd, .int .i64 nn, .slice ba bl.length bc, .slice ka kl.length kc] 39)
 have Q1 := Keep.mk (Blk.new w 39 #[.int .i64 kd, .int .i64 nn, .slice ba bl.length bc, .slice ka kl.length kc])
 have L1 := Keep.mk (HL.out.below hbx)
 have I1 := Keep.mk (HK.out.grown (Grown.below (S := fun k => B ≤ k) hbx) fun _ h => h)
 have IB1 := Keep.mk (HKs.out.grown (Grown.below (S := fun k => B ≤ k) hbx) fun _ h => h)
 have R1 := Keep.mk (HR.out.grown (Grown.below (S := fun k => B ≤ k) hbx) fun _ h => h)
 have GB1 : Keep (Grown w (w.alloc (.cells #[.int .i64 kd, .int .i64 nn, .slice ba bl.length bc, .slice ka kl.length kc] 39)) fun k => B ≤ k) := ⟨Grown.below hbx⟩
 clear hbx
 change WL _ _ _ _ _ (w.alloc (.cells #[.int .i64 kd, .int .i64 nn, .slice ba bl.length bc, .slice ka kl.length kc] 39))
 generalize w.alloc (.cells #[.int .i64 kd, .int .i64 nn, .slice ba bl.length bc, .slice ka kl.length kc] 39) = w1 at *
 obtain ⟨q, hq⟩ : ∃ q, Keep (q = w.heap.size) := ⟨_, ⟨rfl⟩⟩
 rw [← hq.out] at Q1 ⊢
 have HqN : Keep (¬ N q) := ⟨fun e => by have := (HL.out.nl q e).2.1; rw [hq.out] at this; omega⟩
 have c0 := Q1.out.c 0 (by rfl : (#[.int .i64 kd, .int .i64 nn, .slice ba bl.length bc, .slice ka kl.length kc] : Array Value)[0]? = some (.int .i64 kd))
 simp only [Act.put, pqA, pqB, pqC]
 refine VlS (.bool false) ?_
 refine WL.nil (hK1 _ _ ?_)
 refine wp_seq_k fun K2 hK2 => rgn ?_
 refine VlS (.int .i64 0) ?_
 refine WL.nil (hK2 _ _ ?_)
 refine wp_seq_k fun K3 hK3 => ?_
 refine wp_seq_k fun K4 hK4 => rgn ?_
 refine VlS (.pointer (some ⟨q, 0, none⟩)) ?_
 refine VlS (.int .i64 kd) ?_
 refine WL.nil (hK4 _ _ ?_)
 refine wp_block ?_
 refine wp_seq_k fun K5 hK5 => rgn ?_
 refine VlS (.bool false) ?_
 refine VlS (.bool false) ?_
 refine WL.nil (hK5 _ _ ?_)
 refine wp_cond_false rfl ?_
 refine wp_seq_k fun K6 hK6 => rgn ?_
 refine VlS (.bool false) ?_
 refine VlS (.bool false) ?_
 refine WL.nil (hK6 _ _ ?_)
 refine wp_cond_false rfl ?_
 refine wp_seq_k fun K7 hK7 => rgn ?_
 refine VlS (.bool false) ?_
 refine VlS (.bool false) ?_
 refine WL.nil (hK7 _ _ ?_)
 refine wp_cond_false rfl ?_
 refine wp_seq_k fun K8 hK8 => rgn ?_
 refine VlS (.bool false) ?_
 refine VlS (.bool false) ?_
 refine WL.nil (hK8 _ _ ?_)
 refine wp_cond_false rfl ?_
 refine wp_seq_k fun K9 hK9 => rgn ?_
 refine VlS (.bool false) ?_
 refine VlS (.bool false) ?_
 refine WL.nil (hK9 _ _ ?_)
 refine wp_cond_false rfl ?_
 refine wp_skip ?_
 refine hK3 _ _ ?_
 refine wp_seq_k fun K10 hK10 => ?_
 refine wp_seq_k fun K11 hK11 => rgn ?_
 refine VlS (.int .i64 0) ?_
 refine VlS (.bool false) ?_
 refine WL.nil (hK11 _ _ ?_)
 refine wp_cond_false rfl ?_
 refine wp_skip ?_
 refine hK10 _ _ ?_
 refine wp_seq_k fun K12 hK12 => ?_
 obtain ⟨pa_, pc_, cj⟩ := L1.out.lenj HX.out HP.out
 rw [← han.out] at cj
 have HS0 : Keep ((w1.drew).cell? ⟨x, 2, none⟩ = some (ptr j) ∧ (w1.drew).cell? ⟨x, 3, none⟩ = some (.slice aa an ac) ∧ (w1.drew).cell? ⟨j, 1, none⟩ = some (.slice pa_ an pc_)) := ⟨⟨L1.out.bx.drew.c 2 rfl, L1.out.bx.drew.c 3 rfl, cj⟩⟩
 clear cj
 refine wp_region_held_drew (S := fun wx => wx.cell? ⟨x, 2, none⟩ = some (ptr j) ∧ wx.cell? ⟨x, 3, none⟩ = some (.slice aa an ac) ∧ wx.cell? ⟨j, 1, none⟩ = some (.slice pa_ an pc_)) (by kernel_rfl) (HS0.out) (fun hHeld => ?_)
 refine tkS (i := 0) (oi := ⟨some 121, Op.move (Operand.tmp 0), 34, _, _, none⟩) (v := .pointer (some ⟨x, 0, none⟩)) rfl (Or.inl ⟨by rfl, fun w hS => by obtain ⟨hS1, hS2, hS3⟩ := hS; go_simp⟩) hHeld ?_
 refine tkS (i := 1) (oi := ⟨some 122, Op.nilCheck (Operand.tmp 121), 0, _, _, none⟩) (v := .pointer (some ⟨x, 0, none⟩)) rfl (Or.inl ⟨by rfl, fun w hS => by obtain ⟨hS1, hS2, hS3⟩ := hS; go_simp⟩) hHeld ?_
 refine tkS (i := 2) (oi := ⟨some 123, Op.fieldAddr 36 (Operand.tmp 122) 2, 0, _, _, none⟩) (v := .pointer (some ⟨x, 2, none⟩)) rfl (Or.inl ⟨by rfl, fun w hS => by obtain ⟨hS1, hS2, hS3⟩ := hS; go_simp⟩) hHeld ?_
 refine tkS (i := 3) (oi := ⟨some 124, Op.load 22 (Operand.tmp 123), 22, _, _, none⟩) (v := .pointer (some ⟨j, 0, none⟩)) rfl (Or.inl ⟨by rfl, fun w hS => by obtain ⟨hS1, hS2, hS3⟩ := hS; go_simp⟩) hHeld ?_
 refine tkS (i := 5) (oi := ⟨some 126, Op.move (Operand.tmp 0), 34, _, _, none⟩) (v := .pointer (some ⟨x, 0, none⟩)) rfl (Or.inl ⟨by rfl, fun w hS => by obtain ⟨hS1, hS2, hS3⟩ := hS; go_simp⟩) hHeld ?_
 refine tkS (i := 6) (oi := ⟨some 127, Op.nilCheck (Operand.tmp 126), 0, _, _, none⟩) (v := .pointer (some ⟨x, 0, none⟩)) rfl (Or.inl ⟨by rfl, fun w hS => by obtain ⟨hS1, hS2, hS3⟩ := hS; go_simp⟩) hHeld ?_
 refine tkS (i := 7) (oi := ⟨some 128, Op.fieldAddr 36 (Operand.tmp 127) 3, 0, _, _, none⟩) (v := .pointer (some ⟨x, 3, none⟩)) rfl (Or.inl ⟨by rfl, fun w hS => by obtain ⟨hS1, hS2, hS3⟩ := hS; go_simp⟩) hHeld ?_
 refine tkS (i := 8) (oi := ⟨some 129, Op.load 23 (Operand.tmp 128), 23, _, _, none⟩) (v := .slice aa an ac) rfl (Or.inl ⟨by rfl, fun w hS => by obtain ⟨hS1, hS2, hS3⟩ := hS; go_simp⟩) hHeld ?_
 refine tkS (i := 9) (oi := ⟨some 130, Op.call { callee := Callee.builtin Builtin.len, args := #[Operand.tmp 129], argTypes := #[23] }, 3, _, _, none⟩) (v := .int .i64 (an : Int)) rfl (Or.inl ⟨by rfl, fun w hS => by obtain ⟨hS1, hS2, hS3⟩ := hS; go_simp⟩) hHeld ?_
 refine wpAnyH_ready (rs := [4]) (by kernel_rfl) (by simp) ?_
 refine AllReadyH.cons (o := ⟨some 125, Op.call { callee := Callee.value (Operand.func 26), args := #[Operand.tmp 124], argTypes := #[22] }, 3, _, _, none⟩) rfl (fun K hK => ?_) AllReadyH.nil
 rw [if_pos (by rfl)]
 refine wp_callF 26 _ _ rfl Tryd.in26 #[ptr j] (by simp [Act.eval]) (fun vz wz => vz = .int .i64 (an : Int) ∧ wz = w1.drew) ?_ ?_
 ·refine (len_any j pa_ an pc_ w1.drew HS0.out.2.2).mono ?_
  rintro e wz ⟨rfl, rfl⟩
  exact ⟨_, rfl, rfl, rfl⟩
 rintro vz _ ⟨rfl, rfl⟩
 skip
 refine hK _ _ (HS0.out) fun hH9 => ?_
 clear hK
 simp only [Act.put, pqA, pqB, pqC]
 refine tkS (i := 10) (oi := ⟨some 131, Op.binOp BinOp.eql 3 (Operand.tmp 125) (Operand.tmp 130) 3, 4, _, _, none⟩) (v := .bool true) rfl (Or.inl ⟨by rfl, fun w hS => by obtain ⟨hS1, hS2, hS3⟩ := hS; go_simp⟩) hH9 ?_
 refine tkS (i := 11) (oi := ⟨some 6, Op.assign (Operand.tmp 131), 4, _, _, none⟩) (v := .bool true) rfl (Or.inl ⟨by rfl, fun w hS => by obtain ⟨hS1, hS2, hS3⟩ := hS; go_simp⟩) hH9 ?_
 refine wpAnyH_done (by kernel_rfl) ?_ _
 refine hK12 _ _ ?_
 refine wp_ret ?_
 go_ret
 exact ⟨rfl, j, .slice aa an ac, D, V, la, sure, all, N, L1.out.drew, HX.out, HP.out, by omega, GB1.out.drew⟩
set_option maxRecDepth 8000 in
set_option maxHeartbeats 4000000 in
theorem does_crash (B x h d p j : Nat) (vA vk : Value) (kp : List Int) (nn : Int) (ba : Option Addr) (bl : List Int) (bc : Nat) (ka : Option Addr) (kl : List Int) (kc : Nat) (D : DV) (V : JV) (la : Bool) (sure : Nat) (all : List (List Int)) (N : Nat → Prop) (w : World) (hL : LF w B x h d p j vA D V la false sure all N) (hX : JX D V la sure) (hP : V.ps = all) (hK : IntsB w vk kp B) (hKs : IntsB w (.slice ka kl.length kc) kl B) (hR : RowB w (.slice ba bl.length bc) bl B) (hBy : Byts bl) (hn : nn ≤ 9223372036854775807) (hA : D.acts ≤ 4611686018427370000) : Calls Tryd.prog 11 #[ptr x, .agg #[.int .i64 5, .int .i64 nn, .slice ba bl.length bc, .slice ka kl.length kc], vk] w (DoPost B x h d p D w) := by
 obtain ⟨aa, ac, rfl⟩ := hL.ra.form
 obtain ⟨an, han⟩ : ∃ z, Keep (z = all.length) := ⟨_, ⟨rfl⟩⟩
 rw [← han.out] at hL
 have Hal : Keep (all.length ≤ 285216768) := ⟨by rw [← hP]; exact hX.ji.few.1⟩
 have HL := Keep.mk hL
 have HX := Keep.mk hX
 have HP := Keep.mk hP
 have HK := Keep.mk hK
 have HKs := Keep.mk hKs
 have HR := Keep.mk hR
 have HBy := Keep.mk hBy
 have Hn := Keep.mk hn
 have HA := Keep.mk hA
 have HNx : Keep (¬ N x ∧ ¬ N 0 ∧ ¬ N d) := ⟨fun e => (hL.nl x e).2.2.1 rfl, fun e => by have := (hL.nl 0 e).1; have := hL.pos; omega, fun e => (hL.nl d e).2.2.2.2 rfl⟩
 clear hL hX hP hK hKs hR hBy hn hA
 go_enter Tryd.func11, Tryd.ntmps11
 skip
 refine wp_seq_k fun K1 hK1 => rgn ?_
 refine WL.box (by kernel_rfl) 39 (.tmp 1) rfl #[.int .i64 5, .int .i64 nn, .slice ba bl.length bc, .slice ka kl.length kc] rfl ?_
 have hbx := below_new w (.cells #[.int .i64 5, .int .i64 nn, .slice ba bl.length bc, .slice ka kl.length kc] 39)
 have Q1 := Keep.mk (Blk.new w 39 #[.int .i64 5, .int .i64 nn, .slice ba bl.length bc, .slice ka kl.length kc])
 have L1 := Keep.mk (HL.out.below hbx)
 have I1 := Keep.mk (HK.out.grown (Grown.below (S := fun k => B ≤ k) hbx) fun _ h => h)
 have IB1 := Keep.mk (HKs.out.grown (Grown.below (S := fun k => B ≤ k) hbx) fun _ h => h)
 have R1 := Keep.mk (HR.out.grown (Grown.below (S := fun k => B ≤ k) hbx) fun _ h => h)
 have GB1 : Keep (Grown w (w.alloc (.cells #[.int .i64 5, .int .i64 nn, .slice ba bl.length bc, .slice ka kl.length kc] 39)) fun k => B ≤ k) := ⟨Grown.below hbx⟩
 clear hbx
 change WL _ _ _ _ _ (w.alloc (.cells #[.int .i64 5, .int .i64 nn, .slice ba bl.length bc, .slice ka kl.length kc] 39))
 generalize w.alloc (.cells #[.int .i64 5, .int .i64 nn, .slice ba bl.length bc, .slice ka kl.length kc] 39) = w1 at *
 obtain ⟨q, hq⟩ : ∃ q, Keep (q = w.heap.size) := ⟨_, ⟨rfl⟩⟩
 rw [← hq.out] at Q1 ⊢
 have HqN : Keep (¬ N q) := ⟨fun e => by have := (HL.out.nl q e).2.1; rw [hq.out] at this; omega⟩
 have c0 := Q1.out.c 0 (by rfl : (#[.int .i64 5, .int .i64 nn, .slice ba bl.length bc, .slice ka kl.length kc] : Array Value)[0]? = some (.int .i64 5))
 simp only [Act.put, pqA, pqB, pqC]
 refine VlS (.bool false) ?_
 refine WL.nil (hK1 _ _ ?_)
 refine wp_seq_k fun K2 hK2 => rgn ?_
 refine VlS (.int .i64 0) ?_
 refine WL.nil (hK2 _ _ ?_)
 refine wp_seq_k fun K3 hK3 => ?_
 refine wp_seq_k fun K4 hK4 => rgn ?_
 refine VlS (.pointer (some ⟨q, 0, none⟩)) ?_
 refine VlS (.int .i64 5) ?_
 refine WL.nil (hK4 _ _ ?_)
 refine wp_block ?_
 refine wp_seq_k fun K5 hK5 => rgn ?_
 refine VlS (.bool false) ?_
 refine VlS (.bool false) ?_
 refine WL.nil (hK5 _ _ ?_)
 refine wp_cond_false rfl ?_
 refine wp_seq_k fun K6 hK6 => rgn ?_
 refine VlS (.bool false) ?_
 refine VlS (.bool false) ?_
 refine WL.nil (hK6 _ _ ?_)
 refine wp_cond_false rfl ?_
 refine wp_seq_k fun K7 hK7 => rgn ?_
 refine VlS (.bool false) ?_
 refine VlS (.bool false) ?_
 refine WL.nil (hK7 _ _ ?_)
 refine wp_cond_false rfl ?_
 refine wp_seq_k fun K8 hK8 => rgn ?_
 refine VlS (.bool false) ?_
 refine VlS (.bool false) ?_
 refine WL.nil (hK8 _ _ ?_)
 refine wp_cond_false rfl ?_
 refine wp_seq_k fun K9 hK9 => rgn ?_
 refine VlS (.bool true) ?_
 refine VlS (.bool true) ?_
 refine WL.nil (hK9 _ _ ?_)
 refine wp_cond_true rfl ?_
 refine wp_seq_k fun K10 hK10 => ?_
 have c3 := Q1.out.c 3 (by rfl : (#[.int .i64 5, .int .i64 nn, .slice ba bl.length bc, .slice ka kl.length kc] : Array Value)[3]? = some (.slice ka kl.length kc))
 refine rgn ?_
 refine VlS (.pointer (some ⟨x, 0, none⟩)) ?_
 refine VlS (.pointer (some ⟨q, 3, none⟩)) ?_
 refine VlS (.slice ka kl.length kc) ?_
 refine WL.callF (by kernel_rfl) 12 _ _ rfl Tryd.in12 #[ptr x, .slice ka kl.length kc] (by simp [Act.eval]) ?_
 refine (again_life B x h d p j (.slice aa an ac) (.slice ka kl.length kc) kl D V la false sure all N w1 L1.out (by have h := HX.out.ji.cr HX.out.su; rw [HP.out] at h; exact h) IB1.out (by have := HA.out; omega) (by have := Hal.out; omega)).mono ?_
 rintro e w9 ⟨rfl, j9, vA9, D9, V9, k9, N9, a1, a2, a3, a4, a5, a6, a7⟩
 refine ⟨_, rfl, ?_⟩
 have A1 := Keep.mk a1
 have A2 := Keep.mk a2
 have A3 := Keep.mk a3
 have A6 := Keep.mk a6
 have A7 := Keep.mk a7
 clear a1 a2 a3 a4 a5 a6 a7
 simp only [Act.put, pqA, pqB, pqC]
 refine VlS (.bool true) ?_
 refine WL.nil (hK10 _ _ ?_)
 refine wp_ret ?_
 go_ret
 exact ⟨rfl, j9, vA9, D9, V9, false, k9, _, N9, A1.out, A2.out, A3.out, by have h9 := A6.out; omega, GB1.out.trans A7.out⟩
set_option maxRecDepth 8000 in
set_option maxHeartbeats 4000000 in
theorem does_fuse (B x h d p j : Nat) (vA vk : Value) (kp : List Int) (nn : Int) (ba : Option Addr) (bl : List Int) (bc : Nat) (ka : Option Addr) (kl : List Int) (kc : Nat) (D : DV) (V : JV) (la : Bool) (sure : Nat) (all : List (List Int)) (N : Nat → Prop) (w : World) (hL : LF w B x h d p j vA D V la false sure all N) (hX : JX D V la sure) (hP : V.ps = all) (hK : IntsB w vk kp B) (hKs : IntsB w (.slice ka kl.length kc) kl B) (hR : RowB w (.slice ba bl.length bc) bl B) (hBy : Byts bl) (hn : nn ≤ 9223372036854775807) (hA : D.acts ≤ 4611686018427370000) : Calls Tryd.prog 11 #[ptr x, .agg #[.int .i64 4, .int .i64 nn, .slice ba bl.length bc, .slice ka kl.length kc], vk] w (DoPost B x h d p D w) := by
 obtain ⟨aa, ac, rfl⟩ := hL.ra.form
 obtain ⟨an, han⟩ : ∃ z, Keep (z = all.length) := ⟨_, ⟨rfl⟩⟩
 rw [← han.out] at hL
 have Hal : Keep (all.length ≤ 285216768) := ⟨by rw [← hP]; exact hX.ji.few.1⟩
 have HL := Keep.mk hL
 have HX := Keep.mk hX
 have HP := Keep.mk hP
 have HK := Keep.mk hK
 have HKs := Keep.mk hKs
 have HR := Keep.mk hR
 have HBy := Keep.mk hBy
 have Hn := Keep.mk hn
 have HA := Keep.mk hA
 have HNx : Keep (¬ N x ∧ ¬ N 0 ∧ ¬ N d) := ⟨fun e => (hL.nl x e).2.2.1 rfl, fun e => by have := (hL.nl 0 e).1; have := hL.pos; omega, fun e => (hL.nl d e).2.2.2.2 rfl⟩
 clear hL hX hP hK hKs hR hBy hn hA
 go_enter Tryd.func11, Tryd.ntmps11
 refine wp_seq_k fun K1 hK1 => rgn ?_
 refine WL.box (by kernel_rfl) 39 (.tmp 1) rfl #[.int .i64 4, .int .i64 nn, .slice ba bl.length bc, .slice ka kl.length kc] rfl ?_
 have hbx := below_new w (.cells #[.int .i64 4, .int .i64 nn, .slice ba bl.length bc, .slice ka kl.length kc] 39)
 have Q1 := Keep.mk (Blk.new w 39 #[.int .i64 4, .int .i64 nn, .slice ba bl.length bc, .slice ka kl.length kc])
 have L1 := Keep.mk (HL.out.below hbx)
 have I1 := Keep.mk (HK.out.grown (Grown.below (S := fun k => B ≤ k) hbx) fun _ h => h)
 have IB1 := Keep.mk (HKs.out.grown (Grown.below (S := fun k => B ≤ k) hbx) fun _ h => h)
 have R1 := Keep.mk (HR.out.grown (Grown.below (S := fun k => B ≤ k) hbx) fun _ h => h)
 have GB1 : Keep (Grown w (w.alloc (.cells #[.int .i64 4, .int .i64 nn, .slice ba bl.length bc, .slice ka kl.length kc] 39)) fun k => B ≤ k) := ⟨Grown.below hbx⟩
 clear hbx
 change WL _ _ _ _ _ (w.alloc (.cells #[.int .i64 4, .int .i64 nn, .slice ba bl.length bc, .slice ka kl.length kc] 39))
 generalize w.alloc (.cells #[.int .i64 4, .int .i64 nn, .slice ba bl.length bc, .slice ka kl.length kc] 39) = w1 at *
 obtain ⟨q, hq⟩ : ∃ q, Keep (q = w.heap.size) := ⟨_, ⟨rfl⟩⟩
 rw [← hq.out] at Q1 ⊢
 have HqN : Keep (¬ N q) := ⟨fun e => by have := (HL.out.nl q e).2.1; rw [hq.out] at this; omega⟩
 have c0 := Q1.out.c 0 (by rfl : (#[.int .i64 4, .int .i64 nn, .slice ba bl.length bc, .slice ka kl.length kc] : Array Value)[0]? = some (.int .i64 4))
 simp only [Act.put, pqA, pqB, pqC]
 refine VlS (.bool false) ?_
 refine WL.nil (hK1 _ _ ?_)
 refine wp_seq_k fun K2 hK2 => rgn ?_
 refine VlS (.int .i64 0) ?_
 refine WL.nil (hK2 _ _ ?_)
 refine wp_seq_k fun K3 hK3 => ?_
 refine wp_seq_k fun K4 hK4 => rgn ?_
 refine VlS (.pointer (some ⟨q, 0, none⟩)) ?_
 refine VlS (.int .i64 4) ?_
 refine WL.nil (hK4 _ _ ?_)
 refine wp_block ?_
 refine wp_seq_k fun K5 hK5 => rgn ?_
 refine VlS (.bool false) ?_
 refine VlS (.bool false) ?_
 refine WL.nil (hK5 _ _ ?_)
 refine wp_cond_false rfl ?_
 refine wp_seq_k fun K6 hK6 => rgn ?_
 refine VlS (.bool false) ?_
 refine VlS (.bool false) ?_
 refine WL.nil (hK6 _ _ ?_)
 refine wp_cond_false rfl ?_
 refine wp_seq_k fun K7 hK7 => rgn ?_
 refine VlS (.bool false) ?_
 refine VlS (.bool false) ?_
 refine WL.nil (hK7 _ _ ?_)
 refine wp_cond_false rfl ?_
 refine wp_seq_k fun K8 hK8 => rgn ?_
 refine VlS (.bool true) ?_
 refine VlS (.bool true) ?_
 refine WL.nil (hK8 _ _ ?_)
 refine wp_cond_true rfl ?_
 clear c0
 have L2 := Keep.mk L1.out.drew
 obtain ⟨hdk, vf, cs, vp, hD, hJ, hPp, hN⟩ := L2.out.jd
 have HS0 : Keep ((w1.drew).cell? ⟨x, 0, none⟩ = some (ptr h) ∧ (w1.drew).cell? ⟨q, 1, none⟩ = some (.int .i64 nn)) := ⟨⟨L2.out.bx.c 0 rfl, Q1.out.drew.c 1 rfl⟩⟩
 refine wp_region_held_drew (S := fun wx => wx.cell? ⟨x, 0, none⟩ = some (ptr h) ∧ wx.cell? ⟨q, 1, none⟩ = some (.int .i64 nn)) (by kernel_rfl) (HS0.out) (fun hHeld => ?_)
 refine tkS (i := 0) (oi := ⟨some 103, Op.move (Operand.tmp 0), 34, _, _, none⟩) (v := .pointer (some ⟨x, 0, none⟩)) rfl (Or.inl ⟨by rfl, fun w hS => by obtain ⟨hS1, hS2⟩ := hS; go_simp⟩) hHeld ?_
 refine tkS (i := 1) (oi := ⟨some 104, Op.nilCheck (Operand.tmp 103), 0, _, _, none⟩) (v := .pointer (some ⟨x, 0, none⟩)) rfl (Or.inl ⟨by rfl, fun w hS => by obtain ⟨hS1, hS2⟩ := hS; go_simp⟩) hHeld ?_
 refine tkS (i := 2) (oi := ⟨some 105, Op.fieldAddr 36 (Operand.tmp 104) 0, 0, _, _, none⟩) (v := .pointer (some ⟨x, 0, none⟩)) rfl (Or.inl ⟨by rfl, fun w hS => by obtain ⟨hS1, hS2⟩ := hS; go_simp⟩) hHeld ?_
 refine tkS (i := 3) (oi := ⟨some 106, Op.load 31 (Operand.tmp 105), 31, _, _, none⟩) (v := .pointer (some ⟨h, 0, none⟩)) rfl (Or.inl ⟨by rfl, fun w hS => by obtain ⟨hS1, hS2⟩ := hS; go_simp⟩) hHeld ?_
 refine tkS (i := 4) (oi := ⟨some 107, Op.fieldAddr 39 (Operand.tmp 4) 1, 0, _, _, none⟩) (v := .pointer (some ⟨q, 1, none⟩)) rfl (Or.inl ⟨by rfl, fun w hS => by obtain ⟨hS1, hS2⟩ := hS; go_simp⟩) hHeld ?_
 refine tkS (i := 5) (oi := ⟨some 108, Op.load 3 (Operand.tmp 107), 3, _, _, none⟩) (v := .int .i64 nn) rfl (Or.inl ⟨by rfl, fun w hS => by obtain ⟨hS1, hS2⟩ := hS; go_simp⟩) hHeld ?_
 refine wpAnyH_ready (rs := [6]) (by kernel_rfl) (by simp) ?_
 refine AllReadyH.cons (o := ⟨some 109, Op.call { callee := Callee.value (Operand.func 18), args := #[Operand.tmp 106, Operand.tmp 108], argTypes := #[31, 3] }, 0, _, _, none⟩) rfl (fun K hK => ?_) AllReadyH.nil
 rw [if_pos (by rfl)]
 refine wp_callF 18 _ _ rfl Tryd.in18 #[ptr h, .int .i64 nn] (by simp [Act.eval]) (fun vz wz => vz = .tuple #[] ∧ DskAt wz p vf cs { D with fuse := max (-1) nn } ∧ Grown w1.drew wz fun k => k = p) ?_ ?_
 ·refine (fuse_any h p nn vf cs D w1.drew L2.out.bh hD).mono ?_
  rintro e wz ⟨rfl, h1, h2⟩
  exact ⟨_, rfl, rfl, h1, h2⟩
 rintro vz w5 ⟨rfl, h1, h2⟩
 have hNp : N p := hN p (.inl (.inl rfl))
 have hgN : Grown w1.drew w5 N := h2.mono fun k _ e => by rw [e]; exact hNp
 have hty : ∀ {k : Nat} {T : TypeId}, Typ w1.drew k T → T = 61 ∨ T = 79 → ¬ k = p := fun hk hT e => by subst e; have := hk.one hD.blk.typ; rcases hT with hT | hT <;> (rw [hT] at this; revert this; decide)
 have hJD : JDN w5 j d p { D with fuse := max (-1) nn } V la false (JN2 N w1.drew.heap.size w5.heap.size) := ⟨hgN.blk hdk HNx.out.2.2, vf, cs, vp, h1, h2.blk hJ (hty hJ.typ (.inl rfl)), hPp.grown h2 fun k hk => hty (hPp.typ hk) (.inr rfl), fun k hk => ⟨.inl (hN k hk), Nat.lt_of_lt_of_le (L2.out.nl k (hN k hk)).2.1 h2.size⟩⟩
 have L5 := Keep.mk (L2.out.step hJD hgN)
 have GB5 : Keep (Grown w w5 fun k => B ≤ k) := ⟨GB1.out.drew.trans (hgN.mono fun k _ e => (HL.out.nl k e).1)⟩
 have JX5 : Keep (JX { D with fuse := max (-1) nn } V la sure) := ⟨HX.out.fuse _ ⟨by omega, by have := Hn.out; omega⟩⟩
 obtain ⟨DX, hDX⟩ : ∃ z, Keep (z = { D with fuse := max (-1) nn }) := ⟨_, ⟨rfl⟩⟩
 have HDa : Keep (DX.acts = D.acts) := ⟨by rw [hDX.out]⟩
 rw [← hDX.out] at JX5 L5
 have Q5 : Keep (Blk w5 q 39 #[.int .i64 4, .int .i64 nn, .slice ba bl.length bc, .slice ka kl.length kc]) := ⟨hgN.blk Q1.out.drew HqN.out⟩
 clear h1 h2 hNp hgN hJD hty hdk hD hJ hPp hN
 refine hK _ _ (⟨L5.out.bx.c 0 rfl, (Q5.out.c 1 rfl)⟩) fun hH5 => ?_
 clear hK
 simp only [Act.put, pqA, pqB, pqC]
 refine wpAnyH_done (by kernel_rfl) ?_ _
 refine hK3 _ _ ?_
 refine wp_seq_k fun K9 hK9 => ?_
 refine wp_seq_k fun K10 hK10 => rgn ?_
 refine VlS (.int .i64 0) ?_
 refine VlS (.bool false) ?_
 refine WL.nil (hK10 _ _ ?_)
 refine wp_cond_false rfl ?_
 refine wp_skip ?_
 refine hK9 _ _ ?_
 refine wp_seq_k fun K11 hK11 => ?_
 obtain ⟨pa_, pc_, cj⟩ := L5.out.lenj JX5.out HP.out
 rw [← han.out] at cj
 have HS0 : Keep ((w5.drew).cell? ⟨x, 2, none⟩ = some (ptr j) ∧ (w5.drew).cell? ⟨x, 3, none⟩ = some (.slice aa an ac) ∧ (w5.drew).cell? ⟨j, 1, none⟩ = some (.slice pa_ an pc_)) := ⟨⟨L5.out.bx.drew.c 2 rfl, L5.out.bx.drew.c 3 rfl, cj⟩⟩
 clear cj
 refine wp_region_held_drew (S := fun wx => wx.cell? ⟨x, 2, none⟩ = some (ptr j) ∧ wx.cell? ⟨x, 3, none⟩ = some (.slice aa an ac) ∧ wx.cell? ⟨j, 1, none⟩ = some (.slice pa_ an pc_)) (by kernel_rfl) (HS0.out) (fun hHeld => ?_)
 refine tkS (i := 0) (oi := ⟨some 121, Op.move (Operand.tmp 0), 34, _, _, none⟩) (v := .pointer (some ⟨x, 0, none⟩)) rfl (Or.inl ⟨by rfl, fun w hS => by obtain ⟨hS1, hS2, hS3⟩ := hS; go_simp⟩) hHeld ?_
 refine tkS (i := 1) (oi := ⟨some 122, Op.nilCheck (Operand.tmp 121), 0, _, _, none⟩) (v := .pointer (some ⟨x, 0, none⟩)) rfl (Or.inl ⟨by rfl, fun w hS => by obtain ⟨hS1, hS2, hS3⟩ := hS; go_simp⟩) hHeld ?_
 refine tkS (i := 2) (oi := ⟨some 123, Op.fieldAddr 36 (Operand.tmp 122) 2, 0, _, _, none⟩) (v := .pointer (some ⟨x, 2, none⟩)) rfl (Or.inl ⟨by rfl, fun w hS => by obtain ⟨hS1, hS2, hS3⟩ := hS; go_simp⟩) hHeld ?_
 refine tkS (i := 3) (oi := ⟨some 124, Op.load 22 (Operand.tmp 123), 22, _, _, none⟩) (v := .pointer (some ⟨j, 0, none⟩)) rfl (Or.inl ⟨by rfl, fun w hS => by obtain ⟨hS1, hS2, hS3⟩ := hS; go_simp⟩) hHeld ?_
 refine tkS (i := 5) (oi := ⟨some 126, Op.move (Operand.tmp 0), 34, _, _, none⟩) (v := .pointer (some ⟨x, 0, none⟩)) rfl (Or.inl ⟨by rfl, fun w hS => by obtain ⟨hS1, hS2, hS3⟩ := hS; go_simp⟩) hHeld ?_
 refine tkS (i := 6) (oi := ⟨some 127, Op.nilCheck (Operand.tmp 126), 0, _, _, none⟩) (v := .pointer (some ⟨x, 0, none⟩)) rfl (Or.inl ⟨by rfl, fun w hS => by obtain ⟨hS1, hS2, hS3⟩ := hS; go_simp⟩) hHeld ?_
 refine tkS (i := 7) (oi := ⟨some 128, Op.fieldAddr 36 (Operand.tmp 127) 3, 0, _, _, none⟩) (v := .pointer (some ⟨x, 3, none⟩)) rfl (Or.inl ⟨by rfl, fun w hS => by obtain ⟨hS1, hS2, hS3⟩ := hS; go_simp⟩) hHeld ?_
 refine tkS (i := 8) (oi := ⟨some 129, Op.load 23 (Operand.tmp 128), 23, _, _, none⟩) (v := .slice aa an ac) rfl (Or.inl ⟨by rfl, fun w hS => by obtain ⟨hS1, hS2, hS3⟩ := hS; go_simp⟩) hHeld ?_
 refine tkS (i := 9) (oi := ⟨some 130, Op.call { callee := Callee.builtin Builtin.len, args := #[Operand.tmp 129], argTypes := #[23] }, 3, _, _, none⟩) (v := .int .i64 (an : Int)) rfl (Or.inl ⟨by rfl, fun w hS => by obtain ⟨hS1, hS2, hS3⟩ := hS; go_simp⟩) hHeld ?_
 refine wpAnyH_ready (rs := [4]) (by kernel_rfl) (by simp) ?_
 refine AllReadyH.cons (o := ⟨some 125, Op.call { callee := Callee.value (Operand.func 26), args := #[Operand.tmp 124], argTypes := #[22] }, 3, _, _, none⟩) rfl (fun K hK => ?_) AllReadyH.nil
 rw [if_pos (by rfl)]
 refine wp_callF 26 _ _ rfl Tryd.in26 #[ptr j] (by simp [Act.eval]) (fun vz wz => vz = .int .i64 (an : Int) ∧ wz = w5.drew) ?_ ?_
 ·refine (len_any j pa_ an pc_ w5.drew HS0.out.2.2).mono ?_
  rintro e wz ⟨rfl, rfl⟩
  exact ⟨_, rfl, rfl, rfl⟩
 rintro vz _ ⟨rfl, rfl⟩
 skip
 refine hK _ _ (HS0.out) fun hH9 => ?_
 clear hK
 simp only [Act.put, pqA, pqB, pqC]
 refine tkS (i := 10) (oi := ⟨some 131, Op.binOp BinOp.eql 3 (Operand.tmp 125) (Operand.tmp 130) 3, 4, _, _, none⟩) (v := .bool true) rfl (Or.inl ⟨by rfl, fun w hS => by obtain ⟨hS1, hS2, hS3⟩ := hS; go_simp⟩) hH9 ?_
 refine tkS (i := 11) (oi := ⟨some 6, Op.assign (Operand.tmp 131), 4, _, _, none⟩) (v := .bool true) rfl (Or.inl ⟨by rfl, fun w hS => by obtain ⟨hS1, hS2, hS3⟩ := hS; go_simp⟩) hH9 ?_
 refine wpAnyH_done (by kernel_rfl) ?_ _
 refine hK11 _ _ ?_
 refine wp_ret ?_
 go_ret
 exact ⟨rfl, j, .slice aa an ac, DX, V, la, sure, all, _, L5.out.drew, JX5.out, HP.out, by have := HDa.out; omega, GB5.out.drew⟩
end Go.Proofs.YtennogmeeefopaaDoor
