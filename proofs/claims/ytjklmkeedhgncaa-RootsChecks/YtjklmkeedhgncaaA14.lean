import Derived.Test.YtjklmkeedhgncaaA11
import Derived.Test.YtjklmkeedhgncaaA05
import Derived.Deep.RegionHeld3
namespace Go.Proofs.Ytjklmkeedhgncaa
open Go.RowKit
set_option linter.unusedSimpArgs false
set_option linter.unusedVariables false
theorem Try.in59 (w : World) (vs : Array Value) : (callFunc 59 vs).run Try.prog w = .ok (.enter 59 vs) w := by kernel_rfl
def rwsOf (n : Nat) (x : LV) : List (List Int) := match climbL n x.num.toNat (lfH x) x.ps with
 | some (t, rt) => RtP.leafR numL x.c.ce :: (rt ++ [RtP.topR le8 n t])
 | none => []
def RgP (B x n : Nat) (y : LV) (root : Hs) (rows : List (List Int)) (w : World) (e : Ending) (w' : World) : Prop :=
 ∃ rows' : List (List Int), e = .returned (.bool (okL (n : Int) y && rgtB n y root)) ∧ BkH B w' x rows' ∧ (okL (n : Int) y && rgtB n y root) = (okL (n : Int) y && rgtB n y root) ∧ ((okL (n : Int) y && rgtB n y root) = true → rows' = rows ++ rwsOf n y) ∧ rows'.length ≤ rows.length + y.ps.length + 2 ∧ Grown w w' (BkS B w)
set_option maxRecDepth 8000 in
set_option maxHeartbeats 1000000 in
theorem rg_kind (B x n : Nat) (y : LV) (root : Hs) (rows : List (List Int)) (w : World) (hn : 0 < n) (Hn : Keep (n < 9223372036854775808)) (hkm : kmay y.c.k = false) (hK : BkH B w x rows) (hL : LfAt B w y) (hsz : y.c.s.size + y.c.l.length ≤ 140737488350000) (hN : rows.length + y.ps.length + 3 ≤ 4398046511104) (hB : B ≤ w.heap.size) : Calls Try.prog 59 #[.pointer (some ⟨x, 0, none⟩), .agg (bytesA 32 root.f), .int .i64 (n : Int), .agg (lvA y)] w (RgP B x n y root rows w) := by
 have hres : Keep ((okL (n : Int) y && rgtB n y root) = false) := ⟨by
  simp [okL, hkm]⟩
 have HK := Keep.mk hK
 have HN := Keep.mk hN
 have HB := Keep.mk hB
 have HLf : Keep (∀ wx, Below w.heap.size w wx → LfAt w.heap.size wx y) := ⟨fun wx hb => (hL.mono hB).below hb⟩
 have HPa5 : Keep (∀ wx, Below B w wx → HPa B wx y.pv y.ps) := ⟨fun wx hb => hL.pa.below hb⟩
 skip
 skip
 clear hK hL hN hB hsz
 go_enter Try.func59, Try.ntmps59
 refine wp_seq_k fun K1 hK1 => rgn ?_
 refine WL.box (by kernel_rfl) 25 (.tmp 1) rfl (bytesA 32 root.f) rfl ?_
 have Q1 := Keep.mk (Blk.new w 25 (bytesA 32 root.f))
 have b_ := below_new w (.cells (bytesA 32 root.f) 25)
 change WL _ _ _ _ _ (w.alloc (.cells (bytesA 32 root.f) 25))
 generalize w.alloc (.cells (bytesA 32 root.f) 25) = w1 at *
 obtain ⟨q, hq0⟩ : ∃ z, Keep (z = w.heap.size) := ⟨_, ⟨rfl⟩⟩
 rw [← hq0.out] at Q1 ⊢
 have B1 : Keep (Below w.heap.size w w1) := ⟨b_⟩
 have gq : Keep (w.heap.size ≤ q) := ⟨by rw [hq0.out]; exact Nat.le_refl _⟩
 clear b_
 simp only [Act.put, pqA, pqB, pqC]
 refine WL.box (by kernel_rfl) 69 (.tmp 3) rfl (lvA y) rfl ?_
 have Z2 := Keep.mk (Blk.new w1 69 (lvA y))
 have b_ := below_new w1 (.cells (lvA y) 69)
 change WL _ _ _ _ _ (w1.alloc (.cells (lvA y) 69))
 generalize w1.alloc (.cells (lvA y) 69) = w2 at *
 obtain ⟨z, hz0⟩ : ∃ z, Keep (z = w1.heap.size) := ⟨_, ⟨rfl⟩⟩
 rw [← hz0.out] at Z2 ⊢
 have Q2 := Keep.mk (Q1.out.below b_ Q1.out.lt)
 have B2 : Keep (Below w.heap.size w w2) := ⟨B1.out.trans (b_.mono B1.out.size)⟩
 have gz : Keep (w.heap.size ≤ z) := ⟨by rw [hz0.out]; exact B1.out.size⟩
 clear b_
 have BK2 := Keep.mk (HK.out.below B2.out)
 have G2 : Keep (Grown w w2 (BkS B w)) := ⟨Grown.below B2.out⟩
 have z0 : w2.cell? ⟨z, 0, none⟩ = some (.int .i64 y.num) := Z2.out.c 0 rfl
 have z1 : w2.cell? ⟨z, 1, none⟩ = some (.int .i64 y.c.k) := Z2.out.c 1 rfl
 simp only [Act.put, pqA, pqB, pqC]
 refine VbF ?_
 refine WL.nil (hK1 _ _ ?_)
 refine wp_seq_k fun K2 hK2 => rgn ?_
 refine VlS (.pointer (some ⟨z, 1, none⟩)) ?_
 refine VlS (.pointer (some ⟨z, 1, none⟩)) ?_
 refine VlS (.int .i64 y.c.k) ?_
 refine WL.callF (by kernel_rfl) 31 _ _ rfl Try.in31 #[.int .i64 y.c.k] (by simp [Act.eval]) ?_
 refine (kmay_any y.c.k _).mono ?_
 rintro e w1_ ⟨rfl, hw_⟩
 refine ⟨_, rfl, ?_⟩
 have hw_ := hw_.symm
 subst hw_
 rw [hkm]
 simp only [Act.put, pqA, pqB, pqC]
 refine VbF ?_
 refine WL.nil (hK2 _ _ ?_)
 refine wp_seq_k fun K3 hK3 => ?_
 refine wp_seq_k fun K4 hK4 => rgn ?_
 refine VbF ?_
 refine VbT ?_
 refine VbT ?_
 refine SkS ?_
 refine SkS ?_
 refine SkS ?_
 refine VbT ?_
 refine VbT ?_
 refine SkS ?_
 refine SkS ?_
 refine SkS ?_
 refine SkS ?_
 refine VbT ?_
 refine WL.nil (hK4 _ _ ?_)
 refine wp_cond_true rfl ?_
 refine wp_seq_k fun K5 hK5 => rgn ?_
 refine VbF ?_
 refine WL.nil (hK5 _ _ ?_)
 refine wp_ret ?_
 go_ret
 refine ⟨rows, by rw [hres.out]; rfl, BK2.out, rfl, ?_, by omega, G2.out⟩
 rw [hres.out]; intro h; cases h
set_option maxRecDepth 8000 in
set_option maxHeartbeats 1000000 in
theorem rg_neg (B x n : Nat) (y : LV) (root : Hs) (rows : List (List Int)) (w : World) (hn : 0 < n) (Hn : Keep (n < 9223372036854775808)) (hkm : kmay y.c.k = true) (hng : y.num < 0) (hK : BkH B w x rows) (hL : LfAt B w y) (hsz : y.c.s.size + y.c.l.length ≤ 140737488350000) (hN : rows.length + y.ps.length + 3 ≤ 4398046511104) (hB : B ≤ w.heap.size) : Calls Try.prog 59 #[.pointer (some ⟨x, 0, none⟩), .agg (bytesA 32 root.f), .int .i64 (n : Int), .agg (lvA y)] w (RgP B x n y root rows w) := by
 have hres : Keep ((okL (n : Int) y && rgtB n y root) = false) := ⟨by
  have : decide (0 ≤ y.num) = false := by simp; omega
  simp [okL, this]⟩
 have HK := Keep.mk hK
 have HN := Keep.mk hN
 have HB := Keep.mk hB
 have HLf : Keep (∀ wx, Below w.heap.size w wx → LfAt w.heap.size wx y) := ⟨fun wx hb => (hL.mono hB).below hb⟩
 have HPa5 : Keep (∀ wx, Below B w wx → HPa B wx y.pv y.ps) := ⟨fun wx hb => hL.pa.below hb⟩
 skip
 skip
 clear hK hL hN hB hsz
 go_enter Try.func59, Try.ntmps59
 refine wp_seq_k fun K1 hK1 => rgn ?_
 refine WL.box (by kernel_rfl) 25 (.tmp 1) rfl (bytesA 32 root.f) rfl ?_
 have Q1 := Keep.mk (Blk.new w 25 (bytesA 32 root.f))
 have b_ := below_new w (.cells (bytesA 32 root.f) 25)
 change WL _ _ _ _ _ (w.alloc (.cells (bytesA 32 root.f) 25))
 generalize w.alloc (.cells (bytesA 32 root.f) 25) = w1 at *
 obtain ⟨q, hq0⟩ : ∃ z, Keep (z = w.heap.size) := ⟨_, ⟨rfl⟩⟩
 rw [← hq0.out] at Q1 ⊢
 have B1 : Keep (Below w.heap.size w w1) := ⟨b_⟩
 have gq : Keep (w.heap.size ≤ q) := ⟨by rw [hq0.out]; exact Nat.le_refl _⟩
 clear b_
 simp only [Act.put, pqA, pqB, pqC]
 refine WL.box (by kernel_rfl) 69 (.tmp 3) rfl (lvA y) rfl ?_
 have Z2 := Keep.mk (Blk.new w1 69 (lvA y))
 have b_ := below_new w1 (.cells (lvA y) 69)
 change WL _ _ _ _ _ (w1.alloc (.cells (lvA y) 69))
 generalize w1.alloc (.cells (lvA y) 69) = w2 at *
 obtain ⟨z, hz0⟩ : ∃ z, Keep (z = w1.heap.size) := ⟨_, ⟨rfl⟩⟩
 rw [← hz0.out] at Z2 ⊢
 have Q2 := Keep.mk (Q1.out.below b_ Q1.out.lt)
 have B2 : Keep (Below w.heap.size w w2) := ⟨B1.out.trans (b_.mono B1.out.size)⟩
 have gz : Keep (w.heap.size ≤ z) := ⟨by rw [hz0.out]; exact B1.out.size⟩
 clear b_
 have BK2 := Keep.mk (HK.out.below B2.out)
 have G2 : Keep (Grown w w2 (BkS B w)) := ⟨Grown.below B2.out⟩
 have z0 : w2.cell? ⟨z, 0, none⟩ = some (.int .i64 y.num) := Z2.out.c 0 rfl
 have z1 : w2.cell? ⟨z, 1, none⟩ = some (.int .i64 y.c.k) := Z2.out.c 1 rfl
 simp only [Act.put, pqA, pqB, pqC]
 refine VbF ?_
 refine WL.nil (hK1 _ _ ?_)
 refine wp_seq_k fun K2 hK2 => rgn ?_
 refine VlS (.pointer (some ⟨z, 1, none⟩)) ?_
 refine VlS (.pointer (some ⟨z, 1, none⟩)) ?_
 refine VlS (.int .i64 y.c.k) ?_
 refine WL.callF (by kernel_rfl) 31 _ _ rfl Try.in31 #[.int .i64 y.c.k] (by simp [Act.eval]) ?_
 refine (kmay_any y.c.k _).mono ?_
 rintro e w1_ ⟨rfl, hw_⟩
 refine ⟨_, rfl, ?_⟩
 have hw_ := hw_.symm
 subst hw_
 rw [hkm]
 simp only [Act.put, pqA, pqB, pqC]
 refine VbT ?_
 refine WL.nil (hK2 _ _ ?_)
 refine wp_seq_k fun K3 hK3 => ?_
 refine wp_seq_k fun K4 hK4 => rgn ?_
 refine VbT ?_
 refine VbF ?_
 refine VbF ?_
 refine VlS (.pointer (some ⟨z, 0, none⟩)) ?_
 refine VlS (.int .i64 y.num) ?_
 refine VbT ?_
 refine VbT ?_
 refine VbT ?_
 refine SkS ?_
 refine SkS ?_
 refine SkS ?_
 refine SkS ?_
 refine VbT ?_
 refine WL.nil (hK4 _ _ ?_)
 refine wp_cond_true rfl ?_
 refine wp_seq_k fun K5 hK5 => rgn ?_
 refine VbF ?_
 refine WL.nil (hK5 _ _ ?_)
 refine wp_ret ?_
 go_ret
 refine ⟨rows, by rw [hres.out]; rfl, BK2.out, rfl, ?_, by omega, G2.out⟩
 rw [hres.out]; intro h; cases h
set_option maxRecDepth 8000 in
set_option maxHeartbeats 1000000 in
theorem rg_big (B x n : Nat) (y : LV) (root : Hs) (rows : List (List Int)) (w : World) (hn : 0 < n) (Hn : Keep (n < 9223372036854775808)) (hkm : kmay y.c.k = true) (hng : ¬ y.num < 0) (hbg : (n : Int) ≤ y.num) (hK : BkH B w x rows) (hL : LfAt B w y) (hsz : y.c.s.size + y.c.l.length ≤ 140737488350000) (hN : rows.length + y.ps.length + 3 ≤ 4398046511104) (hB : B ≤ w.heap.size) : Calls Try.prog 59 #[.pointer (some ⟨x, 0, none⟩), .agg (bytesA 32 root.f), .int .i64 (n : Int), .agg (lvA y)] w (RgP B x n y root rows w) := by
 have hres : Keep ((okL (n : Int) y && rgtB n y root) = false) := ⟨by
  have : decide (y.num < (n : Int)) = false := by simp; omega
  simp [okL, this]⟩
 have HK := Keep.mk hK
 have HN := Keep.mk hN
 have HB := Keep.mk hB
 have HLf : Keep (∀ wx, Below w.heap.size w wx → LfAt w.heap.size wx y) := ⟨fun wx hb => (hL.mono hB).below hb⟩
 have HPa5 : Keep (∀ wx, Below B w wx → HPa B wx y.pv y.ps) := ⟨fun wx hb => hL.pa.below hb⟩
 skip
 skip
 have hbg' : y.num ≥ (n : Int) := hbg
 clear hK hL hN hB hsz
 go_enter Try.func59, Try.ntmps59
 refine wp_seq_k fun K1 hK1 => rgn ?_
 refine WL.box (by kernel_rfl) 25 (.tmp 1) rfl (bytesA 32 root.f) rfl ?_
 have Q1 := Keep.mk (Blk.new w 25 (bytesA 32 root.f))
 have b_ := below_new w (.cells (bytesA 32 root.f) 25)
 change WL _ _ _ _ _ (w.alloc (.cells (bytesA 32 root.f) 25))
 generalize w.alloc (.cells (bytesA 32 root.f) 25) = w1 at *
 obtain ⟨q, hq0⟩ : ∃ z, Keep (z = w.heap.size) := ⟨_, ⟨rfl⟩⟩
 rw [← hq0.out] at Q1 ⊢
 have B1 : Keep (Below w.heap.size w w1) := ⟨b_⟩
 have gq : Keep (w.heap.size ≤ q) := ⟨by rw [hq0.out]; exact Nat.le_refl _⟩
 clear b_
 simp only [Act.put, pqA, pqB, pqC]
 refine WL.box (by kernel_rfl) 69 (.tmp 3) rfl (lvA y) rfl ?_
 have Z2 := Keep.mk (Blk.new w1 69 (lvA y))
 have b_ := below_new w1 (.cells (lvA y) 69)
 change WL _ _ _ _ _ (w1.alloc (.cells (lvA y) 69))
 generalize w1.alloc (.cells (lvA y) 69) = w2 at *
 obtain ⟨z, hz0⟩ : ∃ z, Keep (z = w1.heap.size) := ⟨_, ⟨rfl⟩⟩
 rw [← hz0.out] at Z2 ⊢
 have Q2 := Keep.mk (Q1.out.below b_ Q1.out.lt)
 have B2 : Keep (Below w.heap.size w w2) := ⟨B1.out.trans (b_.mono B1.out.size)⟩
 have gz : Keep (w.heap.size ≤ z) := ⟨by rw [hz0.out]; exact B1.out.size⟩
 clear b_
 have BK2 := Keep.mk (HK.out.below B2.out)
 have G2 : Keep (Grown w w2 (BkS B w)) := ⟨Grown.below B2.out⟩
 have z0 : w2.cell? ⟨z, 0, none⟩ = some (.int .i64 y.num) := Z2.out.c 0 rfl
 have z1 : w2.cell? ⟨z, 1, none⟩ = some (.int .i64 y.c.k) := Z2.out.c 1 rfl
 simp only [Act.put, pqA, pqB, pqC]
 refine VbF ?_
 refine WL.nil (hK1 _ _ ?_)
 refine wp_seq_k fun K2 hK2 => rgn ?_
 refine VlS (.pointer (some ⟨z, 1, none⟩)) ?_
 refine VlS (.pointer (some ⟨z, 1, none⟩)) ?_
 refine VlS (.int .i64 y.c.k) ?_
 refine WL.callF (by kernel_rfl) 31 _ _ rfl Try.in31 #[.int .i64 y.c.k] (by simp [Act.eval]) ?_
 refine (kmay_any y.c.k _).mono ?_
 rintro e w1_ ⟨rfl, hw_⟩
 refine ⟨_, rfl, ?_⟩
 have hw_ := hw_.symm
 subst hw_
 rw [hkm]
 simp only [Act.put, pqA, pqB, pqC]
 refine VbT ?_
 refine WL.nil (hK2 _ _ ?_)
 refine wp_seq_k fun K3 hK3 => ?_
 refine wp_seq_k fun K4 hK4 => rgn ?_
 refine VbT ?_
 refine VbF ?_
 refine VbF ?_
 refine VlS (.pointer (some ⟨z, 0, none⟩)) ?_
 refine VlS (.int .i64 y.num) ?_
 refine VbF ?_
 refine VbF ?_
 refine VbF ?_
 refine VlS (.pointer (some ⟨z, 0, none⟩)) ?_
 refine VlS (.int .i64 y.num) ?_
 refine VlS (.int .i64 (n : Int)) ?_
 refine VbT ?_
 refine VbT ?_
 refine WL.nil (hK4 _ _ ?_)
 refine wp_cond_true rfl ?_
 refine wp_seq_k fun K5 hK5 => rgn ?_
 refine VbF ?_
 refine WL.nil (hK5 _ _ ?_)
 refine wp_ret ?_
 go_ret
 refine ⟨rows, by rw [hres.out]; rfl, BK2.out, rfl, ?_, by omega, G2.out⟩
 rw [hres.out]; intro h; cases h
set_option maxRecDepth 8000 in
set_option maxHeartbeats 1000000 in
theorem rg_none (B x n : Nat) (y : LV) (root : Hs) (rows : List (List Int)) (w : World) (hn : 0 < n) (Hn : Keep (n < 9223372036854775808)) (hkm : kmay y.c.k = true) (i : Nat) (hi : Keep (y.num = (i : Int))) (hin : i < n) (hcl : Keep (climbL n i (lfH y) y.ps = none)) (hK : BkH B w x rows) (hL : LfAt B w y) (hsz : y.c.s.size + y.c.l.length ≤ 140737488350000) (hN : rows.length + y.ps.length + 3 ≤ 4398046511104) (hB : B ≤ w.heap.size) : Calls Try.prog 59 #[.pointer (some ⟨x, 0, none⟩), .agg (bytesA 32 root.f), .int .i64 (n : Int), .agg (lvA y)] w (RgP B x n y root rows w) := by
 have hres : Keep ((okL (n : Int) y && rgtB n y root) = false) := ⟨by
  unfold rgtB; rw [hi.out, Int.toNat_natCast, hcl.out]; simp⟩
 have HK := Keep.mk hK
 have HN := Keep.mk hN
 have HB := Keep.mk hB
 have HLf : Keep (∀ wx, Below w.heap.size w wx → LfAt w.heap.size wx y) := ⟨fun wx hb => (hL.mono hB).below hb⟩
 have HPa5 : Keep (∀ wx, Below B w wx → HPa B wx y.pv y.ps) := ⟨fun wx hb => hL.pa.below hb⟩
 have HF : Keep ((0 ≤ y.c.k ∧ y.c.k < 9223372036854775808) ∧ y.c.s.size + y.c.l.length ≤ 140737488350000) := ⟨by have h := hkm; unfold kmay at h; simp at h; omega⟩
 have hck : Keep ((y.c.k.toNat : Int) = y.c.k) := ⟨by have := HF.out; omega⟩
 have hz1 : ¬ y.num < 0 := by have := hi.out; omega
 have hz2 : ¬ y.num ≥ (n : Int) := by have := hi.out; omega
 have hz2' : ¬ (n : Int) ≤ y.num := by have := hi.out; omega
 clear hK hL hN hB hsz
 go_enter Try.func59, Try.ntmps59
 refine wp_seq_k fun K1 hK1 => rgn ?_
 refine WL.box (by kernel_rfl) 25 (.tmp 1) rfl (bytesA 32 root.f) rfl ?_
 have Q1 := Keep.mk (Blk.new w 25 (bytesA 32 root.f))
 have b_ := below_new w (.cells (bytesA 32 root.f) 25)
 change WL _ _ _ _ _ (w.alloc (.cells (bytesA 32 root.f) 25))
 generalize w.alloc (.cells (bytesA 32 root.f) 25) = w1 at *
 obtain ⟨q, hq0⟩ : ∃ z, Keep (z = w.heap.size) := ⟨_, ⟨rfl⟩⟩
 rw [← hq0.out] at Q1 ⊢
 have B1 : Keep (Below w.heap.size w w1) := ⟨b_⟩
 have gq : Keep (w.heap.size ≤ q) := ⟨by rw [hq0.out]; exact Nat.le_refl _⟩
 clear b_
 simp only [Act.put, pqA, pqB, pqC]
 refine WL.box (by kernel_rfl) 69 (.tmp 3) rfl (lvA y) rfl ?_
 have Z2 := Keep.mk (Blk.new w1 69 (lvA y))
 have b_ := below_new w1 (.cells (lvA y) 69)
 change WL _ _ _ _ _ (w1.alloc (.cells (lvA y) 69))
 generalize w1.alloc (.cells (lvA y) 69) = w2 at *
 obtain ⟨z, hz0⟩ : ∃ z, Keep (z = w1.heap.size) := ⟨_, ⟨rfl⟩⟩
 rw [← hz0.out] at Z2 ⊢
 have Q2 := Keep.mk (Q1.out.below b_ Q1.out.lt)
 have B2 : Keep (Below w.heap.size w w2) := ⟨B1.out.trans (b_.mono B1.out.size)⟩
 have gz : Keep (w.heap.size ≤ z) := ⟨by rw [hz0.out]; exact B1.out.size⟩
 clear b_
 have BK2 := Keep.mk (HK.out.below B2.out)
 have G2 : Keep (Grown w w2 (BkS B w)) := ⟨Grown.below B2.out⟩
 have z0 : w2.cell? ⟨z, 0, none⟩ = some (.int .i64 y.num) := Z2.out.c 0 rfl
 have z1 : w2.cell? ⟨z, 1, none⟩ = some (.int .i64 y.c.k) := Z2.out.c 1 rfl
 simp only [Act.put, pqA, pqB, pqC]
 refine VbF ?_
 refine WL.nil (hK1 _ _ ?_)
 refine wp_seq_k fun K2 hK2 => rgn ?_
 refine VlS (.pointer (some ⟨z, 1, none⟩)) ?_
 refine VlS (.pointer (some ⟨z, 1, none⟩)) ?_
 refine VlS (.int .i64 y.c.k) ?_
 refine WL.callF (by kernel_rfl) 31 _ _ rfl Try.in31 #[.int .i64 y.c.k] (by simp [Act.eval]) ?_
 refine (kmay_any y.c.k _).mono ?_
 rintro e w1_ ⟨rfl, hw_⟩
 refine ⟨_, rfl, ?_⟩
 have hw_ := hw_.symm
 subst hw_
 rw [hkm]
 simp only [Act.put, pqA, pqB, pqC]
 refine VbT ?_
 refine WL.nil (hK2 _ _ ?_)
 refine wp_seq_k fun K3 hK3 => ?_
 refine wp_seq_k fun K4 hK4 => rgn ?_
 refine VbT ?_
 refine VbF ?_
 refine VbF ?_
 refine VlS (.pointer (some ⟨z, 0, none⟩)) ?_
 refine VlS (.int .i64 y.num) ?_
 refine VbF ?_
 refine VbF ?_
 refine VbF ?_
 refine VlS (.pointer (some ⟨z, 0, none⟩)) ?_
 refine VlS (.int .i64 y.num) ?_
 refine VlS (.int .i64 (n : Int)) ?_
 refine VbF ?_
 refine VbF ?_
 refine WL.nil (hK4 _ _ ?_)
 refine wp_cond_false rfl ?_
 refine wp_skip ?_
 refine hK3 _ _ ?_
 refine wp_seq_k fun K5 hK5 => rgn ?_
 refine VlS (.pointer (some ⟨x, 0, none⟩)) ?_
 refine VlS (.pointer (some ⟨z, 1, none⟩)) ?_
 clear z0 z1
 refine WL.midA (by kernel_rfl) 40 (.tmp 31) rfl z 1 rfl (cvA y.c) _ (by have h := rng_mid (blk_range Z2.out); rw [Nat.zero_add] at h; exact h) Try.underlying40 rfl (Try.sizeC _ _ _) ?_
 simp only [Act.put, pqA, pqB, pqC]
 have hlf := leaf_any B x y.c.k.toNat y.c.s y.c.v y.c.l rows w2 BK2.out (HLf.out w2 B2.out).row (fun h0 k hk => Nat.lt_of_lt_of_le ((HLf.out w2 B2.out).rlt h0 k hk) B2.out.size) (by have := HF.out; omega) HF.out.2 (by have := HN.out; omega) (Nat.le_trans HB.out B2.out.size)
 rw [hck.out] at hlf
 refine WL.callF (by kernel_rfl) 76 _ _ rfl Try.in76 #[.pointer (some ⟨x, 0, none⟩), .agg (cvA y.c)] (by simp [Act.eval]) ?_
 refine (hlf).mono ?_
 rintro e w3 ⟨rfl, k1, k2⟩
 refine ⟨_, rfl, ?_⟩
 change WL _ _ _ _ (Act.put _ _ (.agg (bytesA 32 (shaP (RtP.leafR numL y.c.ce))))) w3
 rw [show bytesA 32 (shaP (RtP.leafR numL y.c.ce)) = (bytesA 32 (hof (lfH y))) from by unfold lfH shaL; rw [hof_hl]]
 have BK3 : Keep (BkH B w3 x (rows ++ [RtP.leafR numL y.c.ce])) := ⟨k1⟩
 have G3 : Keep (Grown w w3 (BkS B w)) := ⟨BkS.next G2.out k2⟩
 have Q3 := Keep.mk (Q2.out.bk k2 (by decide) (by decide))
 have Z3 := Keep.mk (Z2.out.bk k2 (by decide) (by decide))
 clear hlf k1 k2
 simp only [Act.put, pqA, pqB, pqC]
 refine WL.new (by kernel_rfl) 25 rfl _ Try.new25 ?_
 have b_ := below_new w3 (.cells (bytesA 32 fun _ => 0) 25)
 have H4 := Keep.mk (Blk.new w3 25 (bytesA 32 fun _ => 0))
 have G4 := Keep.mk (G3.out.belowS b_)
 have BK4 := Keep.mk (BK3.out.below b_)
 have Q4 := Keep.mk (Q3.out.below b_ Q3.out.lt)
 have nQ3h : Keep (q ≠ w3.heap.size) := ⟨by have := Q3.out.lt; omega⟩
 have Z4 := Keep.mk (Z3.out.below b_ Z3.out.lt)
 have nZ3h : Keep (z ≠ w3.heap.size) := ⟨by have := Z3.out.lt; omega⟩
 have gh : Keep (w.heap.size ≤ w3.heap.size) := ⟨G3.out.size⟩
 change WL _ _ _ _ _ (w3.alloc (.cells (bytesA 32 fun _ => 0) 25))
 generalize w3.alloc (.cells (bytesA 32 fun _ => 0) 25) = w4 at *
 obtain ⟨h, hh⟩ : ∃ z, Keep (z = w3.heap.size) := ⟨_, ⟨rfl⟩⟩
 rw [← hh.out] at H4 gh nQ3h nZ3h ⊢
 clear b_ hh
 simp only [Act.put, pqA, pqB, pqC]
 refine WL.storeR (by kernel_rfl) 25 (.tmp 10) (.tmp 33) rfl h (bytesA 32 (hof (lfH y))) rfl rfl 25 (bytesA 32 fun _ => 0) H4.out (Try.size25B _) (bytesA_sizes _ _ _) (bytesA_one _ _) ?_
 have H5 := Keep.mk (H4.out.setRow (bytesA 32 (hof (lfH y))))
 have BK5 := Keep.mk (BK4.out.setRow H4.out (bytesA 32 (hof (lfH y))) (by decide) (by decide) (by decide))
 have G5 : Keep (Grown w (w4.setRow h (bytesA 32 (hof (lfH y)))) (BkS B w)) := ⟨G4.out.next (Grown.setRow w4 h (bytesA 32 (hof (lfH y))) (S := fun k => k = h) fun _ => rfl) fun k hk e => by have := gh.out; omega⟩
 have Q5 := Keep.mk (Q4.out.setRow_ne nQ3h.out (bytesA 32 (hof (lfH y))))
 have Z5 := Keep.mk (Z4.out.setRow_ne nZ3h.out (bytesA 32 (hof (lfH y))))
 generalize w4.setRow h (bytesA 32 (hof (lfH y))) = w5 at *
 simp only [Act.put]
 refine WL.nil (hK5 _ _ ?_)
 refine wp_seq_k fun K6 hK6 => rgn ?_
 refine VlS (.pointer (some ⟨x, 0, none⟩)) ?_
 refine VlS (.int .i64 (n : Int)) ?_
 refine VlS (.pointer (some ⟨z, 0, none⟩)) ?_
 have z0 : w5.cell? ⟨z, 0, none⟩ = some (.int .i64 (i : Int)) := by rw [← hi.out]; exact Z5.out.c 0 rfl
 have z4 : w5.cell? ⟨z, 4, none⟩ = some y.pv := Z5.out.c 4 rfl
 refine VlS (.int .i64 (i : Int)) ?_
 refine WL.row (by kernel_rfl) 25 (.tmp 10) rfl h rfl 25 (bytesA 32 (hof (lfH y))) _ H5.out Try.underlying25 rfl (Try.size25B _) ?_
 simp only [Act.put, pqA, pqB, pqC]
 refine VlS (.pointer (some ⟨z, 4, none⟩)) ?_
 refine VlS (y.pv) ?_
 clear z0 z4
 have hc := climb_any B x n i (lfH y) (shaL_len _) y.pv y.ps (rows ++ [RtP.leafR numL y.c.ce]) w5 (by omega) Hn.out hin BK5.out (by have := HN.out; rw [List.length_append, List.length_singleton]; omega) (HPa5.out w5 (G5.out.bkBelow HB.out)) (Nat.le_trans HB.out G5.out.size)
 refine WL.callF (by kernel_rfl) 80 _ _ rfl Try.in80 #[.pointer (some ⟨x, 0, none⟩), .int .i64 (n : Int), .int .i64 (i : Int), .agg (bytesA 32 (hof (lfH y))), y.pv] (by simp [Act.eval]) ?_
 refine (hc).mono ?_
 rintro e w6 ⟨cc, ok, rs, rfl, k1, k2, k3, k4⟩
 refine ⟨_, rfl, ?_⟩
 rw [hcl.out] at k4
 subst k4
 have BK6 := Keep.mk k1
 have N6 := Keep.mk k2
 have G6 : Keep (Grown w w6 (BkS B w)) := ⟨BkS.next G5.out k3⟩
 have Q6 := Keep.mk (Q5.out.bk k3 (by decide) (by decide))
 clear hc k1 k2 k3
 simp only [Act.put, pqA, pqB, pqC]
 refine VlS (.tuple #[.agg (bytesA 32 cc), .bool false]) ?_
 refine VlS (.agg (bytesA 32 cc)) ?_
 refine VbF ?_
 refine WL.new (by kernel_rfl) 25 rfl _ Try.new25 ?_
 have b_ := below_new w6 (.cells (bytesA 32 fun _ => 0) 25)
 have H7 := Keep.mk (Blk.new w6 25 (bytesA 32 fun _ => 0))
 have G7 := Keep.mk (G6.out.belowS b_)
 have BK7 := Keep.mk (BK6.out.below b_)
 have Q7 := Keep.mk (Q6.out.below b_ Q6.out.lt)
 have nQ6u : Keep (q ≠ w6.heap.size) := ⟨by have := Q6.out.lt; omega⟩
 have gu : Keep (w.heap.size ≤ w6.heap.size) := ⟨G6.out.size⟩
 change WL _ _ _ _ _ (w6.alloc (.cells (bytesA 32 fun _ => 0) 25))
 generalize w6.alloc (.cells (bytesA 32 fun _ => 0) 25) = w7 at *
 obtain ⟨u, hu⟩ : ∃ z, Keep (z = w6.heap.size) := ⟨_, ⟨rfl⟩⟩
 rw [← hu.out] at H7 gu nQ6u ⊢
 clear b_ hu
 simp only [Act.put, pqA, pqB, pqC]
 refine WL.storeR (by kernel_rfl) 25 (.tmp 11) (.tmp 43) rfl u (bytesA 32 cc) rfl rfl 25 (bytesA 32 fun _ => 0) H7.out (Try.size25B _) (bytesA_sizes _ _ _) (bytesA_one _ _) ?_
 have H8 := Keep.mk (H7.out.setRow (bytesA 32 cc))
 have BK8 := Keep.mk (BK7.out.setRow H7.out (bytesA 32 cc) (by decide) (by decide) (by decide))
 have G8 : Keep (Grown w (w7.setRow u (bytesA 32 cc)) (BkS B w)) := ⟨G7.out.next (Grown.setRow w7 u (bytesA 32 cc) (S := fun k => k = u) fun _ => rfl) fun k hk e => by have := gu.out; omega⟩
 have Q8 := Keep.mk (Q7.out.setRow_ne nQ6u.out (bytesA 32 cc))
 generalize w7.setRow u (bytesA 32 cc) = w8 at *
 simp only [Act.put]
 refine VbF ?_
 refine WL.nil (hK6 _ _ ?_)
 refine wp_seq_k fun K7 hK7 => ?_
 refine wp_seq_k fun K8 hK8 => rgn ?_
 refine VbF ?_
 refine VbT ?_
 refine WL.nil (hK8 _ _ ?_)
 refine wp_cond_true rfl ?_
 refine wp_seq_k fun K9 hK9 => rgn ?_
 refine VbF ?_
 refine WL.nil (hK9 _ _ ?_)
 refine wp_ret ?_
 go_ret
 refine ⟨rows ++ [RtP.leafR numL y.c.ce] ++ rs, by rw [hres.out]; rfl, BK8.out, rfl, ?_, by have := N6.out; simp; omega, G8.out⟩
 rw [hres.out]; intro h; cases h
set_option maxRecDepth 8000 in
set_option maxHeartbeats 1000000 in
theorem rg_yes (B x n : Nat) (y : LV) (root : Hs) (rows : List (List Int)) (w : World) (hn : 0 < n) (Hn : Keep (n < 9223372036854775808)) (hkm : kmay y.c.k = true) (i : Nat) (hi : Keep (y.num = (i : Int))) (hin : i < n) (t : List Int) (rt : List (List Int)) (hcl : Keep (climbL n i (lfH y) y.ps = some (t, rt))) (xt : Hs) (hxt : Keep (xt = shaH (RtP.topR le8 n t))) (HE : Keep (decide (xt = root) = true)) (hK : BkH B w x rows) (hL : LfAt B w y) (hsz : y.c.s.size + y.c.l.length ≤ 140737488350000) (hN : rows.length + y.ps.length + 3 ≤ 4398046511104) (hB : B ≤ w.heap.size) : Calls Try.prog 59 #[.pointer (some ⟨x, 0, none⟩), .agg (bytesA 32 root.f), .int .i64 (n : Int), .agg (lvA y)] w (RgP B x n y root rows w) := by
 have hres : Keep ((okL (n : Int) y && rgtB n y root) = true) := ⟨by
  unfold rgtB okL; rw [hi.out, Int.toNat_natCast, hcl.out, hkm]; simp only; rw [← hxt.out, HE.out]; simp; omega⟩
 have HK := Keep.mk hK
 have HN := Keep.mk hN
 have HB := Keep.mk hB
 have HLf : Keep (∀ wx, Below w.heap.size w wx → LfAt w.heap.size wx y) := ⟨fun wx hb => (hL.mono hB).below hb⟩
 have HPa5 : Keep (∀ wx, Below B w wx → HPa B wx y.pv y.ps) := ⟨fun wx hb => hL.pa.below hb⟩
 have HF : Keep ((0 ≤ y.c.k ∧ y.c.k < 9223372036854775808) ∧ y.c.s.size + y.c.l.length ≤ 140737488350000) := ⟨by have h := hkm; unfold kmay at h; simp at h; omega⟩
 have hck : Keep ((y.c.k.toNat : Int) = y.c.k) := ⟨by have := HF.out; omega⟩
 have hz1 : ¬ y.num < 0 := by have := hi.out; omega
 have hz2 : ¬ y.num ≥ (n : Int) := by have := hi.out; omega
 have hz2' : ¬ (n : Int) ≤ y.num := by have := hi.out; omega
 have HTl : Keep (t.length = 32) := ⟨RtP.climb_len shaL shaL_len _ _ _ _ _ _ _ (shaL_len _) hcl.out⟩
 obtain ⟨ht_, hte⟩ : ∃ z : Array Value, Keep (z = bytesA 32 xt.f) := ⟨_, ⟨rfl⟩⟩
 clear hK hL hN hB hsz
 go_enter Try.func59, Try.ntmps59
 refine wp_seq_k fun K1 hK1 => rgn ?_
 refine WL.box (by kernel_rfl) 25 (.tmp 1) rfl (bytesA 32 root.f) rfl ?_
 have Q1 := Keep.mk (Blk.new w 25 (bytesA 32 root.f))
 have b_ := below_new w (.cells (bytesA 32 root.f) 25)
 change WL _ _ _ _ _ (w.alloc (.cells (bytesA 32 root.f) 25))
 generalize w.alloc (.cells (bytesA 32 root.f) 25) = w1 at *
 obtain ⟨q, hq0⟩ : ∃ z, Keep (z = w.heap.size) := ⟨_, ⟨rfl⟩⟩
 rw [← hq0.out] at Q1 ⊢
 have B1 : Keep (Below w.heap.size w w1) := ⟨b_⟩
 have gq : Keep (w.heap.size ≤ q) := ⟨by rw [hq0.out]; exact Nat.le_refl _⟩
 clear b_
 simp only [Act.put, pqA, pqB, pqC]
 refine WL.box (by kernel_rfl) 69 (.tmp 3) rfl (lvA y) rfl ?_
 have Z2 := Keep.mk (Blk.new w1 69 (lvA y))
 have b_ := below_new w1 (.cells (lvA y) 69)
 change WL _ _ _ _ _ (w1.alloc (.cells (lvA y) 69))
 generalize w1.alloc (.cells (lvA y) 69) = w2 at *
 obtain ⟨z, hz0⟩ : ∃ z, Keep (z = w1.heap.size) := ⟨_, ⟨rfl⟩⟩
 rw [← hz0.out] at Z2 ⊢
 have Q2 := Keep.mk (Q1.out.below b_ Q1.out.lt)
 have B2 : Keep (Below w.heap.size w w2) := ⟨B1.out.trans (b_.mono B1.out.size)⟩
 have gz : Keep (w.heap.size ≤ z) := ⟨by rw [hz0.out]; exact B1.out.size⟩
 clear b_
 have BK2 := Keep.mk (HK.out.below B2.out)
 have G2 : Keep (Grown w w2 (BkS B w)) := ⟨Grown.below B2.out⟩
 have z0 : w2.cell? ⟨z, 0, none⟩ = some (.int .i64 y.num) := Z2.out.c 0 rfl
 have z1 : w2.cell? ⟨z, 1, none⟩ = some (.int .i64 y.c.k) := Z2.out.c 1 rfl
 simp only [Act.put, pqA, pqB, pqC]
 refine VbF ?_
 refine WL.nil (hK1 _ _ ?_)
 refine wp_seq_k fun K2 hK2 => rgn ?_
 refine VlS (.pointer (some ⟨z, 1, none⟩)) ?_
 refine VlS (.pointer (some ⟨z, 1, none⟩)) ?_
 refine VlS (.int .i64 y.c.k) ?_
 refine WL.callF (by kernel_rfl) 31 _ _ rfl Try.in31 #[.int .i64 y.c.k] (by simp [Act.eval]) ?_
 refine (kmay_any y.c.k _).mono ?_
 rintro e w1_ ⟨rfl, hw_⟩
 refine ⟨_, rfl, ?_⟩
 have hw_ := hw_.symm
 subst hw_
 rw [hkm]
 simp only [Act.put, pqA, pqB, pqC]
 refine VbT ?_
 refine WL.nil (hK2 _ _ ?_)
 refine wp_seq_k fun K3 hK3 => ?_
 refine wp_seq_k fun K4 hK4 => rgn ?_
 refine VbT ?_
 refine VbF ?_
 refine VbF ?_
 refine VlS (.pointer (some ⟨z, 0, none⟩)) ?_
 refine VlS (.int .i64 y.num) ?_
 refine VbF ?_
 refine VbF ?_
 refine VbF ?_
 refine VlS (.pointer (some ⟨z, 0, none⟩)) ?_
 refine VlS (.int .i64 y.num) ?_
 refine VlS (.int .i64 (n : Int)) ?_
 refine VbF ?_
 refine VbF ?_
 refine WL.nil (hK4 _ _ ?_)
 refine wp_cond_false rfl ?_
 refine wp_skip ?_
 refine hK3 _ _ ?_
 refine wp_seq_k fun K5 hK5 => rgn ?_
 refine VlS (.pointer (some ⟨x, 0, none⟩)) ?_
 refine VlS (.pointer (some ⟨z, 1, none⟩)) ?_
 clear z0 z1
 refine WL.midA (by kernel_rfl) 40 (.tmp 31) rfl z 1 rfl (cvA y.c) _ (by have h := rng_mid (blk_range Z2.out); rw [Nat.zero_add] at h; exact h) Try.underlying40 rfl (Try.sizeC _ _ _) ?_
 simp only [Act.put, pqA, pqB, pqC]
 have hlf := leaf_any B x y.c.k.toNat y.c.s y.c.v y.c.l rows w2 BK2.out (HLf.out w2 B2.out).row (fun h0 k hk => Nat.lt_of_lt_of_le ((HLf.out w2 B2.out).rlt h0 k hk) B2.out.size) (by have := HF.out; omega) HF.out.2 (by have := HN.out; omega) (Nat.le_trans HB.out B2.out.size)
 rw [hck.out] at hlf
 refine WL.callF (by kernel_rfl) 76 _ _ rfl Try.in76 #[.pointer (some ⟨x, 0, none⟩), .agg (cvA y.c)] (by simp [Act.eval]) ?_
 refine (hlf).mono ?_
 rintro e w3 ⟨rfl, k1, k2⟩
 refine ⟨_, rfl, ?_⟩
 change WL _ _ _ _ (Act.put _ _ (.agg (bytesA 32 (shaP (RtP.leafR numL y.c.ce))))) w3
 rw [show bytesA 32 (shaP (RtP.leafR numL y.c.ce)) = (bytesA 32 (hof (lfH y))) from by unfold lfH shaL; rw [hof_hl]]
 have BK3 : Keep (BkH B w3 x (rows ++ [RtP.leafR numL y.c.ce])) := ⟨k1⟩
 have G3 : Keep (Grown w w3 (BkS B w)) := ⟨BkS.next G2.out k2⟩
 have Q3 := Keep.mk (Q2.out.bk k2 (by decide) (by decide))
 have Z3 := Keep.mk (Z2.out.bk k2 (by decide) (by decide))
 clear hlf k1 k2
 simp only [Act.put, pqA, pqB, pqC]
 refine WL.new (by kernel_rfl) 25 rfl _ Try.new25 ?_
 have b_ := below_new w3 (.cells (bytesA 32 fun _ => 0) 25)
 have H4 := Keep.mk (Blk.new w3 25 (bytesA 32 fun _ => 0))
 have G4 := Keep.mk (G3.out.belowS b_)
 have BK4 := Keep.mk (BK3.out.below b_)
 have Q4 := Keep.mk (Q3.out.below b_ Q3.out.lt)
 have nQ3h : Keep (q ≠ w3.heap.size) := ⟨by have := Q3.out.lt; omega⟩
 have Z4 := Keep.mk (Z3.out.below b_ Z3.out.lt)
 have nZ3h : Keep (z ≠ w3.heap.size) := ⟨by have := Z3.out.lt; omega⟩
 have gh : Keep (w.heap.size ≤ w3.heap.size) := ⟨G3.out.size⟩
 change WL _ _ _ _ _ (w3.alloc (.cells (bytesA 32 fun _ => 0) 25))
 generalize w3.alloc (.cells (bytesA 32 fun _ => 0) 25) = w4 at *
 obtain ⟨h, hh⟩ : ∃ z, Keep (z = w3.heap.size) := ⟨_, ⟨rfl⟩⟩
 rw [← hh.out] at H4 gh nQ3h nZ3h ⊢
 clear b_ hh
 simp only [Act.put, pqA, pqB, pqC]
 refine WL.storeR (by kernel_rfl) 25 (.tmp 10) (.tmp 33) rfl h (bytesA 32 (hof (lfH y))) rfl rfl 25 (bytesA 32 fun _ => 0) H4.out (Try.size25B _) (bytesA_sizes _ _ _) (bytesA_one _ _) ?_
 have H5 := Keep.mk (H4.out.setRow (bytesA 32 (hof (lfH y))))
 have BK5 := Keep.mk (BK4.out.setRow H4.out (bytesA 32 (hof (lfH y))) (by decide) (by decide) (by decide))
 have G5 : Keep (Grown w (w4.setRow h (bytesA 32 (hof (lfH y)))) (BkS B w)) := ⟨G4.out.next (Grown.setRow w4 h (bytesA 32 (hof (lfH y))) (S := fun k => k = h) fun _ => rfl) fun k hk e => by have := gh.out; omega⟩
 have Q5 := Keep.mk (Q4.out.setRow_ne nQ3h.out (bytesA 32 (hof (lfH y))))
 have Z5 := Keep.mk (Z4.out.setRow_ne nZ3h.out (bytesA 32 (hof (lfH y))))
 generalize w4.setRow h (bytesA 32 (hof (lfH y))) = w5 at *
 simp only [Act.put]
 refine WL.nil (hK5 _ _ ?_)
 refine wp_seq_k fun K6 hK6 => rgn ?_
 refine VlS (.pointer (some ⟨x, 0, none⟩)) ?_
 refine VlS (.int .i64 (n : Int)) ?_
 refine VlS (.pointer (some ⟨z, 0, none⟩)) ?_
 have z0 : w5.cell? ⟨z, 0, none⟩ = some (.int .i64 (i : Int)) := by rw [← hi.out]; exact Z5.out.c 0 rfl
 have z4 : w5.cell? ⟨z, 4, none⟩ = some y.pv := Z5.out.c 4 rfl
 refine VlS (.int .i64 (i : Int)) ?_
 refine WL.row (by kernel_rfl) 25 (.tmp 10) rfl h rfl 25 (bytesA 32 (hof (lfH y))) _ H5.out Try.underlying25 rfl (Try.size25B _) ?_
 simp only [Act.put, pqA, pqB, pqC]
 refine VlS (.pointer (some ⟨z, 4, none⟩)) ?_
 refine VlS (y.pv) ?_
 clear z0 z4
 have hc := climb_any B x n i (lfH y) (shaL_len _) y.pv y.ps (rows ++ [RtP.leafR numL y.c.ce]) w5 (by omega) Hn.out hin BK5.out (by have := HN.out; rw [List.length_append, List.length_singleton]; omega) (HPa5.out w5 (G5.out.bkBelow HB.out)) (Nat.le_trans HB.out G5.out.size)
 refine WL.callF (by kernel_rfl) 80 _ _ rfl Try.in80 #[.pointer (some ⟨x, 0, none⟩), .int .i64 (n : Int), .int .i64 (i : Int), .agg (bytesA 32 (hof (lfH y))), y.pv] (by simp [Act.eval]) ?_
 refine (hc).mono ?_
 rintro e w6 ⟨cc, ok, rs, rfl, k1, k2, k3, k4⟩
 refine ⟨_, rfl, ?_⟩
 rw [hcl.out] at k4
 obtain ⟨hok, hct, hrs⟩ := k4
 subst hok
 rw [hrs] at k1 k2
 clear hrs
 have BK6 := Keep.mk k1
 have N6 := Keep.mk k2
 have G6 : Keep (Grown w w6 (BkS B w)) := ⟨BkS.next G5.out k3⟩
 have Q6 := Keep.mk (Q5.out.bk k3 (by decide) (by decide))
 have HCT : Keep (hl 32 cc = t) := ⟨by rw [hl_of_arr hct, hl_hof HTl.out]⟩
 clear hct
 clear hc k1 k2 k3
 simp only [Act.put, pqA, pqB, pqC]
 refine VlS (.tuple #[.agg (bytesA 32 cc), .bool true]) ?_
 refine VlS (.agg (bytesA 32 cc)) ?_
 refine VbT ?_
 refine WL.new (by kernel_rfl) 25 rfl _ Try.new25 ?_
 have b_ := below_new w6 (.cells (bytesA 32 fun _ => 0) 25)
 have H7 := Keep.mk (Blk.new w6 25 (bytesA 32 fun _ => 0))
 have G7 := Keep.mk (G6.out.belowS b_)
 have BK7 := Keep.mk (BK6.out.below b_)
 have Q7 := Keep.mk (Q6.out.below b_ Q6.out.lt)
 have nQ6u : Keep (q ≠ w6.heap.size) := ⟨by have := Q6.out.lt; omega⟩
 have gu : Keep (w.heap.size ≤ w6.heap.size) := ⟨G6.out.size⟩
 change WL _ _ _ _ _ (w6.alloc (.cells (bytesA 32 fun _ => 0) 25))
 generalize w6.alloc (.cells (bytesA 32 fun _ => 0) 25) = w7 at *
 obtain ⟨u, hu⟩ : ∃ z, Keep (z = w6.heap.size) := ⟨_, ⟨rfl⟩⟩
 rw [← hu.out] at H7 gu nQ6u ⊢
 clear b_ hu
 simp only [Act.put, pqA, pqB, pqC]
 refine WL.storeR (by kernel_rfl) 25 (.tmp 11) (.tmp 43) rfl u (bytesA 32 cc) rfl rfl 25 (bytesA 32 fun _ => 0) H7.out (Try.size25B _) (bytesA_sizes _ _ _) (bytesA_one _ _) ?_
 have H8 := Keep.mk (H7.out.setRow (bytesA 32 cc))
 have BK8 := Keep.mk (BK7.out.setRow H7.out (bytesA 32 cc) (by decide) (by decide) (by decide))
 have G8 : Keep (Grown w (w7.setRow u (bytesA 32 cc)) (BkS B w)) := ⟨G7.out.next (Grown.setRow w7 u (bytesA 32 cc) (S := fun k => k = u) fun _ => rfl) fun k hk e => by have := gu.out; omega⟩
 have Q8 := Keep.mk (Q7.out.setRow_ne nQ6u.out (bytesA 32 cc))
 generalize w7.setRow u (bytesA 32 cc) = w8 at *
 simp only [Act.put]
 refine VbT ?_
 refine WL.nil (hK6 _ _ ?_)
 refine wp_seq_k fun K7 hK7 => ?_
 refine wp_seq_k fun K8 hK8 => rgn ?_
 refine VbT ?_
 refine VbF ?_
 refine WL.nil (hK8 _ _ ?_)
 refine wp_cond_false rfl ?_
 refine wp_skip ?_
 refine hK7 _ _ ?_
 refine wp_seq_k fun K9 hK9 => ?_
 obtain ⟨hc_, hce⟩ : ∃ z : Array Value, Keep (z = bytesA 32 cc) := ⟨_, ⟨rfl⟩⟩
 obtain ⟨hr_, hre⟩ : ∃ z : Array Value, Keep (z = (bytesA 32 root.f)) := ⟨_, ⟨rfl⟩⟩
 have Ud : Keep (Blk w8.drew u 25 hc_) := ⟨by rw [hce.out]; exact H8.out⟩
 have Qd : Keep (Blk w8.drew q 25 hr_) := ⟨by rw [hre.out]; exact Q8.out⟩
 have bq := (Below.refl w8.heap.size w8).drew
 have BKd := Keep.mk (BK8.out.below bq)
 have Gd : Keep (Grown w w8.drew (BkS B w)) := ⟨G8.out.belowS bq⟩
 clear H8 Q8 BK8 G8 bq
 have HTP : Keep (Calls Try.prog 52 #[.pointer (some ⟨x, 0, none⟩), .int .i64 (n : Int), .agg hc_] w8.drew fun e w' => e = .returned (.agg ht_) ∧ BkH B w' x (rows ++ [RtP.leafR numL y.c.ce] ++ rt ++ [RtP.topR le8 n t]) ∧ Grown w8.drew w' (BkS B w8.drew)) := ⟨by
  have h := top_any B x n cc (rows ++ [RtP.leafR numL y.c.ce] ++ rt) w8.drew BKd.out Hn.out (by have := N6.out; have := HN.out; simp; omega) (Nat.le_trans HB.out Gd.out.size)
  rw [HCT.out] at h
  rw [hce.out, hte.out, hxt.out, ← encH_arr, ← shaH_arr]
  exact h⟩
 refine wp_region_held_drew (S := fun wx => wx.rangeAt u 0 hc_.toList ∧ wx.rangeAt q 0 hr_.toList) (by kernel_rfl) (⟨blk_range Ud.out, blk_range Qd.out⟩) (fun hHeld => ?_)
 refine tkS (i := 0) (oi := ⟨some 47, Op.move (Operand.tmp 0), 58, _, _, none⟩) (v := .pointer (some ⟨x, 0, none⟩)) rfl (Or.inl ⟨by rfl, fun w hS => by obtain ⟨hS1, hS2⟩ := hS; clear hS1 hS2; go_simp⟩) hHeld ?_
 refine tkS (i := 1) (oi := ⟨some 48, Op.move (Operand.tmp 2), 3, _, _, none⟩) (v := .int .i64 (n : Int)) rfl (Or.inl ⟨by rfl, fun w hS => by obtain ⟨hS1, hS2⟩ := hS; clear hS1 hS2; go_simp⟩) hHeld ?_
 refine tkS (i := 2) (oi := ⟨some 49, Op.load 25 (Operand.tmp 11), 25, _, _, none⟩) (v := .agg hc_) rfl (yieldsIf_ld (by rfl) (Operand.tmp 11) 25 rfl u 0 rfl hc_ _ Try.underlying25 rfl (by rw [hce.out]; exact Try.size25B _) fun w hS => hS.1) hHeld ?_
 refine tkS (i := 4) (oi := ⟨some 51, Op.load 25 (Operand.tmp 5), 25, _, _, none⟩) (v := .agg hr_) rfl (yieldsIf_ld (by rfl) (Operand.tmp 5) 25 rfl q 0 rfl hr_ _ Try.underlying25 rfl (by rw [hre.out]; exact Try.size25B _) fun w hS => hS.2) hHeld ?_
 refine wpAnyH_ready (rs := [3]) (by kernel_rfl) (by simp) ?_
 refine AllReadyH.cons (o := ⟨some 50, Op.call { callee := Callee.value (Operand.func 52), args := #[Operand.tmp 47, Operand.tmp 48, Operand.tmp 49], argTypes := #[58, 3, 25] }, 25, _, _, none⟩) rfl (fun K hK => ?_) AllReadyH.nil
 rw [if_pos (by rfl)]
 refine wp_callF 52 _ _ rfl Try.in52 #[.pointer (some ⟨x, 0, none⟩), .int .i64 (n : Int), .agg hc_] (by simp [Act.eval]) (fun vz wz => vz = .agg ht_ ∧ BkH B wz x (rows ++ [RtP.leafR numL y.c.ce] ++ rt ++ [RtP.topR le8 n t]) ∧ Grown w8.drew wz (BkS B w8.drew)) ?_ ?_
 ·refine (HTP.out).mono ?_
  rintro e wz ⟨rfl, k1, k2⟩
  exact ⟨_, rfl, rfl, k1, k2⟩
 rintro vz w9 ⟨rfl, k1, k2⟩
 have BK9 := Keep.mk k1
 have G9 : Keep (Grown w w9 (BkS B w)) := ⟨BkS.next Gd.out k2⟩
 have U9 := Keep.mk (Ud.out.bk k2 (by decide) (by decide))
 have Q9 := Keep.mk (Qd.out.bk k2 (by decide) (by decide))
 clear k1 k2 Ud Qd BKd Gd
 refine hK _ _ (⟨blk_range U9.out, blk_range Q9.out⟩) fun hH1 => ?_
 clear hK
 simp only [Act.put, pqA, pqB, pqC]
 refine tkS (i := 5) (oi := ⟨some 52, Op.binOp BinOp.eql 25 (Operand.tmp 50) (Operand.tmp 51) 25, 4, _, _, none⟩) (v := .bool true) rfl (Or.inl ⟨by rfl, fun w hS => by have hq_ := eqB hte.out hre.out HE.out w; clear hS; go_simp⟩) hH1 ?_
 refine tkS (i := 6) (oi := ⟨some 8, Op.assign (Operand.tmp 52), 4, _, _, none⟩) (v := .bool true) rfl (Or.inl ⟨by rfl, fun w hS => by obtain ⟨hS1, hS2⟩ := hS; clear hS1 hS2; go_simp⟩) hH1 ?_
 refine wpAnyH_done (by kernel_rfl) ?_ _
 refine hK9 _ _ ?_
 refine wp_ret ?_
 go_ret
 refine ⟨_, by rw [hres.out]; rfl, BK9.out, rfl, ?_, by have := N6.out; simp; omega, G9.out⟩
 intro _
 unfold rwsOf
 rw [hi.out, Int.toNat_natCast, hcl.out]
 simp
set_option maxRecDepth 8000 in
set_option maxHeartbeats 1000000 in
theorem rg_no (B x n : Nat) (y : LV) (root : Hs) (rows : List (List Int)) (w : World) (hn : 0 < n) (Hn : Keep (n < 9223372036854775808)) (hkm : kmay y.c.k = true) (i : Nat) (hi : Keep (y.num = (i : Int))) (hin : i < n) (t : List Int) (rt : List (List Int)) (hcl : Keep (climbL n i (lfH y) y.ps = some (t, rt))) (xt : Hs) (hxt : Keep (xt = shaH (RtP.topR le8 n t))) (HE : Keep (decide (xt = root) = false)) (hK : BkH B w x rows) (hL : LfAt B w y) (hsz : y.c.s.size + y.c.l.length ≤ 140737488350000) (hN : rows.length + y.ps.length + 3 ≤ 4398046511104) (hB : B ≤ w.heap.size) : Calls Try.prog 59 #[.pointer (some ⟨x, 0, none⟩), .agg (bytesA 32 root.f), .int .i64 (n : Int), .agg (lvA y)] w (RgP B x n y root rows w) := by
 have hres : Keep ((okL (n : Int) y && rgtB n y root) = false) := ⟨by
  unfold rgtB; rw [hi.out, Int.toNat_natCast, hcl.out]; simp only; rw [← hxt.out, HE.out]; simp⟩
 have HK := Keep.mk hK
 have HN := Keep.mk hN
 have HB := Keep.mk hB
 have HLf : Keep (∀ wx, Below w.heap.size w wx → LfAt w.heap.size wx y) := ⟨fun wx hb => (hL.mono hB).below hb⟩
 have HPa5 : Keep (∀ wx, Below B w wx → HPa B wx y.pv y.ps) := ⟨fun wx hb => hL.pa.below hb⟩
 have HF : Keep ((0 ≤ y.c.k ∧ y.c.k < 9223372036854775808) ∧ y.c.s.size + y.c.l.length ≤ 140737488350000) := ⟨by have h := hkm; unfold kmay at h; simp at h; omega⟩
 have hck : Keep ((y.c.k.toNat : Int) = y.c.k) := ⟨by have := HF.out; omega⟩
 have hz1 : ¬ y.num < 0 := by have := hi.out; omega
 have hz2 : ¬ y.num ≥ (n : Int) := by have := hi.out; omega
 have hz2' : ¬ (n : Int) ≤ y.num := by have := hi.out; omega
 have HTl : Keep (t.length = 32) := ⟨RtP.climb_len shaL shaL_len _ _ _ _ _ _ _ (shaL_len _) hcl.out⟩
 obtain ⟨ht_, hte⟩ : ∃ z : Array Value, Keep (z = bytesA 32 xt.f) := ⟨_, ⟨rfl⟩⟩
 clear hK hL hN hB hsz
 go_enter Try.func59, Try.ntmps59
 refine wp_seq_k fun K1 hK1 => rgn ?_
 refine WL.box (by kernel_rfl) 25 (.tmp 1) rfl (bytesA 32 root.f) rfl ?_
 have Q1 := Keep.mk (Blk.new w 25 (bytesA 32 root.f))
 have b_ := below_new w (.cells (bytesA 32 root.f) 25)
 change WL _ _ _ _ _ (w.alloc (.cells (bytesA 32 root.f) 25))
 generalize w.alloc (.cells (bytesA 32 root.f) 25) = w1 at *
 obtain ⟨q, hq0⟩ : ∃ z, Keep (z = w.heap.size) := ⟨_, ⟨rfl⟩⟩
 rw [← hq0.out] at Q1 ⊢
 have B1 : Keep (Below w.heap.size w w1) := ⟨b_⟩
 have gq : Keep (w.heap.size ≤ q) := ⟨by rw [hq0.out]; exact Nat.le_refl _⟩
 clear b_
 simp only [Act.put, pqA, pqB, pqC]
 refine WL.box (by kernel_rfl) 69 (.tmp 3) rfl (lvA y) rfl ?_
 have Z2 := Keep.mk (Blk.new w1 69 (lvA y))
 have b_ := below_new w1 (.cells (lvA y) 69)
 change WL _ _ _ _ _ (w1.alloc (.cells (lvA y) 69))
 generalize w1.alloc (.cells (lvA y) 69) = w2 at *
 obtain ⟨z, hz0⟩ : ∃ z, Keep (z = w1.heap.size) := ⟨_, ⟨rfl⟩⟩
 rw [← hz0.out] at Z2 ⊢
 have Q2 := Keep.mk (Q1.out.below b_ Q1.out.lt)
 have B2 : Keep (Below w.heap.size w w2) := ⟨B1.out.trans (b_.mono B1.out.size)⟩
 have gz : Keep (w.heap.size ≤ z) := ⟨by rw [hz0.out]; exact B1.out.size⟩
 clear b_
 have BK2 := Keep.mk (HK.out.below B2.out)
 have G2 : Keep (Grown w w2 (BkS B w)) := ⟨Grown.below B2.out⟩
 have z0 : w2.cell? ⟨z, 0, none⟩ = some (.int .i64 y.num) := Z2.out.c 0 rfl
 have z1 : w2.cell? ⟨z, 1, none⟩ = some (.int .i64 y.c.k) := Z2.out.c 1 rfl
 simp only [Act.put, pqA, pqB, pqC]
 refine VbF ?_
 refine WL.nil (hK1 _ _ ?_)
 refine wp_seq_k fun K2 hK2 => rgn ?_
 refine VlS (.pointer (some ⟨z, 1, none⟩)) ?_
 refine VlS (.pointer (some ⟨z, 1, none⟩)) ?_
 refine VlS (.int .i64 y.c.k) ?_
 refine WL.callF (by kernel_rfl) 31 _ _ rfl Try.in31 #[.int .i64 y.c.k] (by simp [Act.eval]) ?_
 refine (kmay_any y.c.k _).mono ?_
 rintro e w1_ ⟨rfl, hw_⟩
 refine ⟨_, rfl, ?_⟩
 have hw_ := hw_.symm
 subst hw_
 rw [hkm]
 simp only [Act.put, pqA, pqB, pqC]
 refine VbT ?_
 refine WL.nil (hK2 _ _ ?_)
 refine wp_seq_k fun K3 hK3 => ?_
 refine wp_seq_k fun K4 hK4 => rgn ?_
 refine VbT ?_
 refine VbF ?_
 refine VbF ?_
 refine VlS (.pointer (some ⟨z, 0, none⟩)) ?_
 refine VlS (.int .i64 y.num) ?_
 refine VbF ?_
 refine VbF ?_
 refine VbF ?_
 refine VlS (.pointer (some ⟨z, 0, none⟩)) ?_
 refine VlS (.int .i64 y.num) ?_
 refine VlS (.int .i64 (n : Int)) ?_
 refine VbF ?_
 refine VbF ?_
 refine WL.nil (hK4 _ _ ?_)
 refine wp_cond_false rfl ?_
 refine wp_skip ?_
 refine hK3 _ _ ?_
 refine wp_seq_k fun K5 hK5 => rgn ?_
 refine VlS (.pointer (some ⟨x, 0, none⟩)) ?_
 refine VlS (.pointer (some ⟨z, 1, none⟩)) ?_
 clear z0 z1
 refine WL.midA (by kernel_rfl) 40 (.tmp 31) rfl z 1 rfl (cvA y.c) _ (by have h := rng_mid (blk_range Z2.out); rw [Nat.zero_add] at h; exact h) Try.underlying40 rfl (Try.sizeC _ _ _) ?_
 simp only [Act.put, pqA, pqB, pqC]
 have hlf := leaf_any B x y.c.k.toNat y.c.s y.c.v y.c.l rows w2 BK2.out (HLf.out w2 B2.out).row (fun h0 k hk => Nat.lt_of_lt_of_le ((HLf.out w2 B2.out).rlt h0 k hk) B2.out.size) (by have := HF.out; omega) HF.out.2 (by have := HN.out; omega) (Nat.le_trans HB.out B2.out.size)
 rw [hck.out] at hlf
 refine WL.callF (by kernel_rfl) 76 _ _ rfl Try.in76 #[.pointer (some ⟨x, 0, none⟩), .agg (cvA y.c)] (by simp [Act.eval]) ?_
 refine (hlf).mono ?_
 rintro e w3 ⟨rfl, k1, k2⟩
 refine ⟨_, rfl, ?_⟩
 change WL _ _ _ _ (Act.put _ _ (.agg (bytesA 32 (shaP (RtP.leafR numL y.c.ce))))) w3
 rw [show bytesA 32 (shaP (RtP.leafR numL y.c.ce)) = (bytesA 32 (hof (lfH y))) from by unfold lfH shaL; rw [hof_hl]]
 have BK3 : Keep (BkH B w3 x (rows ++ [RtP.leafR numL y.c.ce])) := ⟨k1⟩
 have G3 : Keep (Grown w w3 (BkS B w)) := ⟨BkS.next G2.out k2⟩
 have Q3 := Keep.mk (Q2.out.bk k2 (by decide) (by decide))
 have Z3 := Keep.mk (Z2.out.bk k2 (by decide) (by decide))
 clear hlf k1 k2
 simp only [Act.put, pqA, pqB, pqC]
 refine WL.new (by kernel_rfl) 25 rfl _ Try.new25 ?_
 have b_ := below_new w3 (.cells (bytesA 32 fun _ => 0) 25)
 have H4 := Keep.mk (Blk.new w3 25 (bytesA 32 fun _ => 0))
 have G4 := Keep.mk (G3.out.belowS b_)
 have BK4 := Keep.mk (BK3.out.below b_)
 have Q4 := Keep.mk (Q3.out.below b_ Q3.out.lt)
 have nQ3h : Keep (q ≠ w3.heap.size) := ⟨by have := Q3.out.lt; omega⟩
 have Z4 := Keep.mk (Z3.out.below b_ Z3.out.lt)
 have nZ3h : Keep (z ≠ w3.heap.size) := ⟨by have := Z3.out.lt; omega⟩
 have gh : Keep (w.heap.size ≤ w3.heap.size) := ⟨G3.out.size⟩
 change WL _ _ _ _ _ (w3.alloc (.cells (bytesA 32 fun _ => 0) 25))
 generalize w3.alloc (.cells (bytesA 32 fun _ => 0) 25) = w4 at *
 obtain ⟨h, hh⟩ : ∃ z, Keep (z = w3.heap.size) := ⟨_, ⟨rfl⟩⟩
 rw [← hh.out] at H4 gh nQ3h nZ3h ⊢
 clear b_ hh
 simp only [Act.put, pqA, pqB, pqC]
 refine WL.storeR (by kernel_rfl) 25 (.tmp 10) (.tmp 33) rfl h (bytesA 32 (hof (lfH y))) rfl rfl 25 (bytesA 32 fun _ => 0) H4.out (Try.size25B _) (bytesA_sizes _ _ _) (bytesA_one _ _) ?_
 have H5 := Keep.mk (H4.out.setRow (bytesA 32 (hof (lfH y))))
 have BK5 := Keep.mk (BK4.out.setRow H4.out (bytesA 32 (hof (lfH y))) (by decide) (by decide) (by decide))
 have G5 : Keep (Grown w (w4.setRow h (bytesA 32 (hof (lfH y)))) (BkS B w)) := ⟨G4.out.next (Grown.setRow w4 h (bytesA 32 (hof (lfH y))) (S := fun k => k = h) fun _ => rfl) fun k hk e => by have := gh.out; omega⟩
 have Q5 := Keep.mk (Q4.out.setRow_ne nQ3h.out (bytesA 32 (hof (lfH y))))
 have Z5 := Keep.mk (Z4.out.setRow_ne nZ3h.out (bytesA 32 (hof (lfH y))))
 generalize w4.setRow h (bytesA 32 (hof (lfH y))) = w5 at *
 simp only [Act.put]
 refine WL.nil (hK5 _ _ ?_)
 refine wp_seq_k fun K6 hK6 => rgn ?_
 refine VlS (.pointer (some ⟨x, 0, none⟩)) ?_
 refine VlS (.int .i64 (n : Int)) ?_
 refine VlS (.pointer (some ⟨z, 0, none⟩)) ?_
 have z0 : w5.cell? ⟨z, 0, none⟩ = some (.int .i64 (i : Int)) := by rw [← hi.out]; exact Z5.out.c 0 rfl
 have z4 : w5.cell? ⟨z, 4, none⟩ = some y.pv := Z5.out.c 4 rfl
 refine VlS (.int .i64 (i : Int)) ?_
 refine WL.row (by kernel_rfl) 25 (.tmp 10) rfl h rfl 25 (bytesA 32 (hof (lfH y))) _ H5.out Try.underlying25 rfl (Try.size25B _) ?_
 simp only [Act.put, pqA, pqB, pqC]
 refine VlS (.pointer (some ⟨z, 4, none⟩)) ?_
 refine VlS (y.pv) ?_
 clear z0 z4
 have hc := climb_any B x n i (lfH y) (shaL_len _) y.pv y.ps (rows ++ [RtP.leafR numL y.c.ce]) w5 (by omega) Hn.out hin BK5.out (by have := HN.out; rw [List.length_append, List.length_singleton]; omega) (HPa5.out w5 (G5.out.bkBelow HB.out)) (Nat.le_trans HB.out G5.out.size)
 refine WL.callF (by kernel_rfl) 80 _ _ rfl Try.in80 #[.pointer (some ⟨x, 0, none⟩), .int .i64 (n : Int), .int .i64 (i : Int), .agg (bytesA 32 (hof (lfH y))), y.pv] (by simp [Act.eval]) ?_
 refine (hc).mono ?_
 rintro e w6 ⟨cc, ok, rs, rfl, k1, k2, k3, k4⟩
 refine ⟨_, rfl, ?_⟩
 rw [hcl.out] at k4
 obtain ⟨hok, hct, hrs⟩ := k4
 subst hok
 rw [hrs] at k1 k2
 clear hrs
 have BK6 := Keep.mk k1
 have N6 := Keep.mk k2
 have G6 : Keep (Grown w w6 (BkS B w)) := ⟨BkS.next G5.out k3⟩
 have Q6 := Keep.mk (Q5.out.bk k3 (by decide) (by decide))
 have HCT : Keep (hl 32 cc = t) := ⟨by rw [hl_of_arr hct, hl_hof HTl.out]⟩
 clear hct
 clear hc k1 k2 k3
 simp only [Act.put, pqA, pqB, pqC]
 refine VlS (.tuple #[.agg (bytesA 32 cc), .bool true]) ?_
 refine VlS (.agg (bytesA 32 cc)) ?_
 refine VbT ?_
 refine WL.new (by kernel_rfl) 25 rfl _ Try.new25 ?_
 have b_ := below_new w6 (.cells (bytesA 32 fun _ => 0) 25)
 have H7 := Keep.mk (Blk.new w6 25 (bytesA 32 fun _ => 0))
 have G7 := Keep.mk (G6.out.belowS b_)
 have BK7 := Keep.mk (BK6.out.below b_)
 have Q7 := Keep.mk (Q6.out.below b_ Q6.out.lt)
 have nQ6u : Keep (q ≠ w6.heap.size) := ⟨by have := Q6.out.lt; omega⟩
 have gu : Keep (w.heap.size ≤ w6.heap.size) := ⟨G6.out.size⟩
 change WL _ _ _ _ _ (w6.alloc (.cells (bytesA 32 fun _ => 0) 25))
 generalize w6.alloc (.cells (bytesA 32 fun _ => 0) 25) = w7 at *
 obtain ⟨u, hu⟩ : ∃ z, Keep (z = w6.heap.size) := ⟨_, ⟨rfl⟩⟩
 rw [← hu.out] at H7 gu nQ6u ⊢
 clear b_ hu
 simp only [Act.put, pqA, pqB, pqC]
 refine WL.storeR (by kernel_rfl) 25 (.tmp 11) (.tmp 43) rfl u (bytesA 32 cc) rfl rfl 25 (bytesA 32 fun _ => 0) H7.out (Try.size25B _) (bytesA_sizes _ _ _) (bytesA_one _ _) ?_
 have H8 := Keep.mk (H7.out.setRow (bytesA 32 cc))
 have BK8 := Keep.mk (BK7.out.setRow H7.out (bytesA 32 cc) (by decide) (by decide) (by decide))
 have G8 : Keep (Grown w (w7.setRow u (bytesA 32 cc)) (BkS B w)) := ⟨G7.out.next (Grown.setRow w7 u (bytesA 32 cc) (S := fun k => k = u) fun _ => rfl) fun k hk e => by have := gu.out; omega⟩
 have Q8 := Keep.mk (Q7.out.setRow_ne nQ6u.out (bytesA 32 cc))
 generalize w7.setRow u (bytesA 32 cc) = w8 at *
 simp only [Act.put]
 refine VbT ?_
 refine WL.nil (hK6 _ _ ?_)
 refine wp_seq_k fun K7 hK7 => ?_
 refine wp_seq_k fun K8 hK8 => rgn ?_
 refine VbT ?_
 refine VbF ?_
 refine WL.nil (hK8 _ _ ?_)
 refine wp_cond_false rfl ?_
 refine wp_skip ?_
 refine hK7 _ _ ?_
 refine wp_seq_k fun K9 hK9 => ?_
 obtain ⟨hc_, hce⟩ : ∃ z : Array Value, Keep (z = bytesA 32 cc) := ⟨_, ⟨rfl⟩⟩
 obtain ⟨hr_, hre⟩ : ∃ z : Array Value, Keep (z = (bytesA 32 root.f)) := ⟨_, ⟨rfl⟩⟩
 have Ud : Keep (Blk w8.drew u 25 hc_) := ⟨by rw [hce.out]; exact H8.out⟩
 have Qd : Keep (Blk w8.drew q 25 hr_) := ⟨by rw [hre.out]; exact Q8.out⟩
 have bq := (Below.refl w8.heap.size w8).drew
 have BKd := Keep.mk (BK8.out.below bq)
 have Gd : Keep (Grown w w8.drew (BkS B w)) := ⟨G8.out.belowS bq⟩
 clear H8 Q8 BK8 G8 bq
 have HTP : Keep (Calls Try.prog 52 #[.pointer (some ⟨x, 0, none⟩), .int .i64 (n : Int), .agg hc_] w8.drew fun e w' => e = .returned (.agg ht_) ∧ BkH B w' x (rows ++ [RtP.leafR numL y.c.ce] ++ rt ++ [RtP.topR le8 n t]) ∧ Grown w8.drew w' (BkS B w8.drew)) := ⟨by
  have h := top_any B x n cc (rows ++ [RtP.leafR numL y.c.ce] ++ rt) w8.drew BKd.out Hn.out (by have := N6.out; have := HN.out; simp; omega) (Nat.le_trans HB.out Gd.out.size)
  rw [HCT.out] at h
  rw [hce.out, hte.out, hxt.out, ← encH_arr, ← shaH_arr]
  exact h⟩
 refine wp_region_held_drew (S := fun wx => wx.rangeAt u 0 hc_.toList ∧ wx.rangeAt q 0 hr_.toList) (by kernel_rfl) (⟨blk_range Ud.out, blk_range Qd.out⟩) (fun hHeld => ?_)
 refine tkS (i := 0) (oi := ⟨some 47, Op.move (Operand.tmp 0), 58, _, _, none⟩) (v := .pointer (some ⟨x, 0, none⟩)) rfl (Or.inl ⟨by rfl, fun w hS => by obtain ⟨hS1, hS2⟩ := hS; clear hS1 hS2; go_simp⟩) hHeld ?_
 refine tkS (i := 1) (oi := ⟨some 48, Op.move (Operand.tmp 2), 3, _, _, none⟩) (v := .int .i64 (n : Int)) rfl (Or.inl ⟨by rfl, fun w hS => by obtain ⟨hS1, hS2⟩ := hS; clear hS1 hS2; go_simp⟩) hHeld ?_
 refine tkS (i := 2) (oi := ⟨some 49, Op.load 25 (Operand.tmp 11), 25, _, _, none⟩) (v := .agg hc_) rfl (yieldsIf_ld (by rfl) (Operand.tmp 11) 25 rfl u 0 rfl hc_ _ Try.underlying25 rfl (by rw [hce.out]; exact Try.size25B _) fun w hS => hS.1) hHeld ?_
 refine tkS (i := 4) (oi := ⟨some 51, Op.load 25 (Operand.tmp 5), 25, _, _, none⟩) (v := .agg hr_) rfl (yieldsIf_ld (by rfl) (Operand.tmp 5) 25 rfl q 0 rfl hr_ _ Try.underlying25 rfl (by rw [hre.out]; exact Try.size25B _) fun w hS => hS.2) hHeld ?_
 refine wpAnyH_ready (rs := [3]) (by kernel_rfl) (by simp) ?_
 refine AllReadyH.cons (o := ⟨some 50, Op.call { callee := Callee.value (Operand.func 52), args := #[Operand.tmp 47, Operand.tmp 48, Operand.tmp 49], argTypes := #[58, 3, 25] }, 25, _, _, none⟩) rfl (fun K hK => ?_) AllReadyH.nil
 rw [if_pos (by rfl)]
 refine wp_callF 52 _ _ rfl Try.in52 #[.pointer (some ⟨x, 0, none⟩), .int .i64 (n : Int), .agg hc_] (by simp [Act.eval]) (fun vz wz => vz = .agg ht_ ∧ BkH B wz x (rows ++ [RtP.leafR numL y.c.ce] ++ rt ++ [RtP.topR le8 n t]) ∧ Grown w8.drew wz (BkS B w8.drew)) ?_ ?_
 ·refine (HTP.out).mono ?_
  rintro e wz ⟨rfl, k1, k2⟩
  exact ⟨_, rfl, rfl, k1, k2⟩
 rintro vz w9 ⟨rfl, k1, k2⟩
 have BK9 := Keep.mk k1
 have G9 : Keep (Grown w w9 (BkS B w)) := ⟨BkS.next Gd.out k2⟩
 have U9 := Keep.mk (Ud.out.bk k2 (by decide) (by decide))
 have Q9 := Keep.mk (Qd.out.bk k2 (by decide) (by decide))
 clear k1 k2 Ud Qd BKd Gd
 refine hK _ _ (⟨blk_range U9.out, blk_range Q9.out⟩) fun hH1 => ?_
 clear hK
 simp only [Act.put, pqA, pqB, pqC]
 refine tkS (i := 5) (oi := ⟨some 52, Op.binOp BinOp.eql 25 (Operand.tmp 50) (Operand.tmp 51) 25, 4, _, _, none⟩) (v := .bool false) rfl (Or.inl ⟨by rfl, fun w hS => by have hq_ := eqB hte.out hre.out HE.out w; clear hS; go_simp⟩) hH1 ?_
 refine tkS (i := 6) (oi := ⟨some 8, Op.assign (Operand.tmp 52), 4, _, _, none⟩) (v := .bool false) rfl (Or.inl ⟨by rfl, fun w hS => by obtain ⟨hS1, hS2⟩ := hS; clear hS1 hS2; go_simp⟩) hH1 ?_
 refine wpAnyH_done (by kernel_rfl) ?_ _
 refine hK9 _ _ ?_
 refine wp_ret ?_
 go_ret
 refine ⟨_, by rw [hres.out]; rfl, BK9.out, rfl, ?_, by have := N6.out; simp; omega, G9.out⟩
 rw [hres.out]; intro h; cases h
theorem right_any (B x n : Nat) (y : LV) (root : Hs) (rows : List (List Int)) (w : World) (hn : 0 < n) (Hn : n < 9223372036854775808) (hK : BkH B w x rows) (hL : LfAt B w y) (hsz : y.c.s.size + y.c.l.length ≤ 140737488350000) (hN : rows.length + y.ps.length + 3 ≤ 4398046511104) (hB : B ≤ w.heap.size) : Calls Try.prog 59 #[.pointer (some ⟨x, 0, none⟩), .agg (bytesA 32 root.f), .int .i64 (n : Int), .agg (lvA y)] w (RgP B x n y root rows w) := by
 cases hk : kmay y.c.k
 ·exact rg_kind B x n y root rows w hn ⟨Hn⟩ hk hK hL hsz hN hB
 ·by_cases h1 : y.num < 0
  ·exact rg_neg B x n y root rows w hn ⟨Hn⟩ hk h1 hK hL hsz hN hB
  ·by_cases h2 : (n : Int) ≤ y.num
   ·exact rg_big B x n y root rows w hn ⟨Hn⟩ hk h1 h2 hK hL hsz hN hB
   ·obtain ⟨i, hi⟩ : ∃ i : Nat, y.num = (i : Int) := ⟨y.num.toNat, by omega⟩
    cases e : climbL n i (lfH y) y.ps with
    | none => exact rg_none B x n y root rows w hn ⟨Hn⟩ hk i ⟨hi⟩ (by omega) ⟨e⟩ hK hL hsz hN hB
    | some z =>
     cases h3 : decide (shaH (RtP.topR le8 n z.1) = root)
     ·exact rg_no B x n y root rows w hn ⟨Hn⟩ hk i ⟨hi⟩ (by omega) z.1 z.2 ⟨e⟩ _ ⟨rfl⟩ ⟨h3⟩ hK hL hsz hN hB
     ·exact rg_yes B x n y root rows w hn ⟨Hn⟩ hk i ⟨hi⟩ (by omega) z.1 z.2 ⟨e⟩ _ ⟨rfl⟩ ⟨h3⟩ hK hL hsz hN hB

end Go.Proofs.Ytjklmkeedhgncaa
