import Derived.Test.YtjklmkeedhgncaaA12
namespace Go.Proofs.Ytjklmkeedhgncaa
open Go.RowKit
set_option linter.unusedSimpArgs false
set_option linter.unusedVariables false
theorem Try.in60 (w : World) (vs : Array Value) : (callFunc 60 vs).run Try.prog w = .ok (.enter 60 vs) w := by kernel_rfl
def saysI (n : Int) (ls : List LV) (kind : Int) (key : ByteArray) : Int := match ls with
 | [x] => if sgn x kind key = 0 then 1 else if (0 < sgn x kind key ∧ x.num = 0) ∨ (sgn x kind key < 0 ∧ x.num = n - 1) then 0 else -1
 | [x, y] => if sgn x kind key < 0 ∧ 0 < sgn y kind key ∧ y.num = x.num + 1 then 0 else -1
 | _ => -1
theorem ahx {x : LV} {kind : Int} {key : ByteArray} : aheI x.c.k x.c.s kind key = decide (sgn x kind key < 0) := by
 rw [Bool.eq_iff_iff, ← stI_lt, decide_eq_true_iff]; rfl
theorem bhx {x : LV} {kind : Int} {key : ByteArray} : aheI kind key x.c.k x.c.s = decide (0 < sgn x kind key) := by
 rw [Bool.eq_iff_iff, ← stI_gt, decide_eq_true_iff]; rfl
set_option maxRecDepth 8000 in
set_option maxHeartbeats 1000000 in
theorem sy_eq (b off cap : Nat) (n kind : Int) (key : ByteArray) (x : LV) (w : World) (hs : sgn x kind key = 0) (hn : 1 ≤ n ∧ n ≤ 9223372036854775807) (hx : 0 ≤ x.num ∧ x.num < n) (hL : LsAt w.heap.size w b off [x]) : Calls Try.prog 60 #[.int .i64 kind, .string key, .agg (wtA n (.slice (some ⟨b, off, none⟩) 1 cap))] w fun e w' => e = .returned (.int .i64 (saysI n [x] kind key)) ∧ Below w.heap.size w w' := by
 have hres : Keep (saysI n [x] kind key = 1) := ⟨by simp only [saysI]; rw [if_pos hs]⟩
 have HR : Keep (∀ wx, Below w.heap.size w wx → wx.rangeAt b off (lvA x).toList) := ⟨fun wx hb => by have h := (hL.below hb).at_ 0 x rfl; simpa using h⟩
 have HX1 : Keep ((lvA x).all (·.oneCell') = true) := ⟨lvA_one (hL.lf x (by simp))⟩
 skip
 skip
 have hwn : IntKind.i64.wrap (n - 1) = n - 1 := by rw [IntKind.wrap_i64]; omega
 have hwx : IntKind.i64.wrap (x.num + 1) = x.num + 1 := by rw [IntKind.wrap_i64]; omega
 have hah : Keep (aheI x.c.k x.c.s kind key = false) := ⟨by rw [ahx]; simp; omega⟩
 have hbh : Keep (aheI kind key x.c.k x.c.s = false) := ⟨by rw [bhx]; simp; omega⟩
 clear hL hn hx hs
 go_enter Try.func60, Try.ntmps60
 refine wp_seq_k fun K1 hK1 => rgn ?_
 refine WL.box (by kernel_rfl) 31 (.tmp 2) rfl (wtA n (.slice (some ⟨b, off, none⟩) 1 cap)) rfl ?_
 have W1 := Keep.mk (Blk.new w 31 (wtA n (.slice (some ⟨b, off, none⟩) 1 cap)))
 have b_ := below_new w (.cells (wtA n (.slice (some ⟨b, off, none⟩) 1 cap)) 31)
 change WL _ _ _ _ _ (w.alloc (.cells (wtA n (.slice (some ⟨b, off, none⟩) 1 cap)) 31))
 generalize w.alloc (.cells (wtA n (.slice (some ⟨b, off, none⟩) 1 cap)) 31) = w1 at *
 obtain ⟨d, hd0⟩ : ∃ z, Keep (z = w.heap.size) := ⟨_, ⟨rfl⟩⟩
 rw [← hd0.out] at W1 ⊢
 have B1 : Keep (Below w.heap.size w w1) := ⟨b_⟩
 have gd : Keep (w.heap.size ≤ d) := ⟨by rw [hd0.out]; exact Nat.le_refl _⟩
 clear b_
 have w0_ : w1.cell? ⟨d, 0, none⟩ = some (.int .i64 n) := W1.out.c 0 rfl
 have w1_ : w1.cell? ⟨d, 1, none⟩ = some (.slice (some ⟨b, off, none⟩) 1 cap) := W1.out.c 1 rfl
 simp only [Act.put, pqA, pqB, pqC]
 refine VlS (.int .i64 0) ?_
 refine WL.nil (hK1 _ _ ?_)
 refine wp_seq_k fun K2 hK2 => rgn ?_
 refine VlS (.pointer (some ⟨d, 1, none⟩)) ?_
 refine VlS (.slice (some ⟨b, off, none⟩) 1 cap) ?_
 refine VlS (.pointer (some ⟨b, off, none⟩)) ?_
 refine WL.midA (by kernel_rfl) 69 (.tmp 14) rfl b off rfl (lvA x) _ (HR.out w1 B1.out) Try.underlying69 rfl (Try.sizeLf x) ?_
 simp only [Act.put, pqA, pqB, pqC]
 clear w0_ w1_
 refine WL.new (by kernel_rfl) 69 rfl _ Try.newLf ?_
 have F2 := Keep.mk (Blk.new w1 69 zLf)
 have b_ := below_new w1 (.cells zLf 69)
 change WL _ _ _ _ _ (w1.alloc (.cells zLf 69))
 generalize w1.alloc (.cells zLf 69) = w2 at *
 obtain ⟨f, hf0⟩ : ∃ z, Keep (z = w1.heap.size) := ⟨_, ⟨rfl⟩⟩
 rw [← hf0.out] at F2 ⊢
 have D2 := Keep.mk (W1.out.below b_ W1.out.lt)
 have B2 : Keep (Below w.heap.size w w2) := ⟨B1.out.trans (b_.mono B1.out.size)⟩
 have gf : Keep (w.heap.size ≤ f) := ⟨by rw [hf0.out]; exact B1.out.size⟩
 clear b_
 have nW1f : Keep (d ≠ f) := ⟨by have := W1.out.lt; have := hf0.out; omega⟩
 simp only [Act.put, pqA, pqB, pqC]
 refine WL.storeR (by kernel_rfl) 69 (.tmp 7) (.tmp 15) rfl f (lvA x) rfl rfl 69 zLf F2.out (Try.sizeLf x) rfl HX1.out ?_
 have F3 := Keep.mk (F2.out.setRow (lvA x))
 have B3 : Keep (Below w.heap.size w (w2.setRow f (lvA x))) := ⟨below_setRow B2.out gf.out _⟩
 have D3 := Keep.mk (D2.out.setRow_ne nW1f.out (lvA x))
 generalize w2.setRow f (lvA x) = w3 at *
 have f0 : w3.cell? ⟨f, 0, none⟩ = some (.int .i64 x.num) := F3.out.c 0 rfl
 have f1 : w3.cell? ⟨f, 1, none⟩ = some (.int .i64 x.c.k) := F3.out.c 1 rfl
 have f2 : w3.cell? ⟨f, 2, none⟩ = some (.string x.c.s) := F3.out.c 2 rfl
 have w0_ : w3.cell? ⟨d, 0, none⟩ = some (.int .i64 n) := D3.out.c 0 rfl
 have w1_ : w3.cell? ⟨d, 1, none⟩ = some (.slice (some ⟨b, off, none⟩) 1 cap) := D3.out.c 1 rfl
 simp only [Act.put]
 refine WL.nil (hK2 _ _ ?_)
 refine wp_seq_k fun K3 hK3 => rgn ?_
 refine VlS (.pointer (some ⟨f, 1, none⟩)) ?_
 refine VlS (.pointer (some ⟨f, 1, none⟩)) ?_
 refine VlS (.int .i64 x.c.k) ?_
 refine VlS (.pointer (some ⟨f, 1, none⟩)) ?_
 refine VlS (.pointer (some ⟨f, 2, none⟩)) ?_
 refine VlS (.string x.c.s) ?_
 refine VlS (.int .i64 kind) ?_
 refine VlS (.string key) ?_
 refine WL.callF (by kernel_rfl) 33 _ _ rfl Try.in33 #[.int .i64 x.c.k, .string x.c.s, .int .i64 kind, .string key] (by simp [Act.eval]) ?_
 refine (ahe_any x.c.k x.c.s kind key _).mono ?_
 rintro e w1_z ⟨rfl, hw_⟩
 refine ⟨_, rfl, ?_⟩
 have hw_ := hw_.symm
 subst hw_
 rw [hah.out]
 simp only [Act.put, pqA, pqB, pqC]
 refine VbF ?_
 refine WL.nil (hK3 _ _ ?_)
 refine wp_seq_k fun K4 hK4 => rgn ?_
 refine VlS (.int .i64 kind) ?_
 refine VlS (.string key) ?_
 refine VlS (.pointer (some ⟨f, 1, none⟩)) ?_
 refine VlS (.pointer (some ⟨f, 1, none⟩)) ?_
 refine VlS (.int .i64 x.c.k) ?_
 refine VlS (.pointer (some ⟨f, 1, none⟩)) ?_
 refine VlS (.pointer (some ⟨f, 2, none⟩)) ?_
 refine VlS (.string x.c.s) ?_
 refine WL.callF (by kernel_rfl) 33 _ _ rfl Try.in33 #[.int .i64 kind, .string key, .int .i64 x.c.k, .string x.c.s] (by simp [Act.eval]) ?_
 refine (ahe_any kind key x.c.k x.c.s _).mono ?_
 rintro e w1_z ⟨rfl, hw_⟩
 refine ⟨_, rfl, ?_⟩
 have hw_ := hw_.symm
 subst hw_
 rw [hbh.out]
 simp only [Act.put, pqA, pqB, pqC]
 refine VbF ?_
 refine WL.nil (hK4 _ _ ?_)
 refine wp_seq_k fun K5 hK5 => ?_
 refine wp_seq_k fun K6 hK6 => rgn ?_
 refine VlS (.pointer (some ⟨d, 1, none⟩)) ?_
 refine VlS (.slice (some ⟨b, off, none⟩) 1 cap) ?_
 refine VlS (.int .i64 1) ?_
 refine VbF ?_
 refine WL.nil (hK6 _ _ ?_)
 refine wp_cond_false rfl ?_
 refine wp_skip ?_
 refine hK5 _ _ ?_
 refine wp_seq_k fun K7 hK7 => ?_
 refine wp_block ?_
 refine wp_seq_k fun K8 hK8 => rgn ?_
 refine VbF ?_
 refine VbT ?_
 refine VbT ?_
 refine VbF ?_
 refine VbT ?_
 refine VbT ?_
 refine VbT ?_
 refine WL.nil (hK8 _ _ ?_)
 refine wp_cond_true rfl ?_
 refine wp_seq_k fun K9 hK9 => rgn ?_
 refine VlS (.int .i64 1) ?_
 refine WL.nil (hK9 _ _ ?_)
 refine wp_ret ?_
 try simp only [Exit.inBlock, Exit.then]
 go_ret
 refine ⟨?_, B3.out⟩
 rw [hres.out]
 rfl
set_option maxRecDepth 8000 in
set_option maxHeartbeats 1000000 in
theorem sy_g0 (b off cap : Nat) (n kind : Int) (key : ByteArray) (x : LV) (w : World) (hs : 0 < sgn x kind key) (hz : x.num = 0) (hn : 1 ≤ n ∧ n ≤ 9223372036854775807) (hx : 0 ≤ x.num ∧ x.num < n) (hL : LsAt w.heap.size w b off [x]) : Calls Try.prog 60 #[.int .i64 kind, .string key, .agg (wtA n (.slice (some ⟨b, off, none⟩) 1 cap))] w fun e w' => e = .returned (.int .i64 (saysI n [x] kind key)) ∧ Below w.heap.size w w' := by
 have hres : Keep (saysI n [x] kind key = 0) := ⟨by simp only [saysI]; rw [if_neg (by omega), if_pos (.inl ⟨hs, hz⟩)]⟩
 have HR : Keep (∀ wx, Below w.heap.size w wx → wx.rangeAt b off (lvA x).toList) := ⟨fun wx hb => by have h := (hL.below hb).at_ 0 x rfl; simpa using h⟩
 have HX1 : Keep ((lvA x).all (·.oneCell') = true) := ⟨lvA_one (hL.lf x (by simp))⟩
 skip
 skip
 have hwn : IntKind.i64.wrap (n - 1) = n - 1 := by rw [IntKind.wrap_i64]; omega
 have hwx : IntKind.i64.wrap (x.num + 1) = x.num + 1 := by rw [IntKind.wrap_i64]; omega
 have hah : Keep (aheI x.c.k x.c.s kind key = false) := ⟨by rw [ahx]; simp; omega⟩
 have hbh : Keep (aheI kind key x.c.k x.c.s = true) := ⟨by rw [bhx]; simp; omega⟩
 have hzb : (x.num == 0) = true := by simpa using hz
 clear hL hn hx hs
 go_enter Try.func60, Try.ntmps60
 refine wp_seq_k fun K1 hK1 => rgn ?_
 refine WL.box (by kernel_rfl) 31 (.tmp 2) rfl (wtA n (.slice (some ⟨b, off, none⟩) 1 cap)) rfl ?_
 have W1 := Keep.mk (Blk.new w 31 (wtA n (.slice (some ⟨b, off, none⟩) 1 cap)))
 have b_ := below_new w (.cells (wtA n (.slice (some ⟨b, off, none⟩) 1 cap)) 31)
 change WL _ _ _ _ _ (w.alloc (.cells (wtA n (.slice (some ⟨b, off, none⟩) 1 cap)) 31))
 generalize w.alloc (.cells (wtA n (.slice (some ⟨b, off, none⟩) 1 cap)) 31) = w1 at *
 obtain ⟨d, hd0⟩ : ∃ z, Keep (z = w.heap.size) := ⟨_, ⟨rfl⟩⟩
 rw [← hd0.out] at W1 ⊢
 have B1 : Keep (Below w.heap.size w w1) := ⟨b_⟩
 have gd : Keep (w.heap.size ≤ d) := ⟨by rw [hd0.out]; exact Nat.le_refl _⟩
 clear b_
 have w0_ : w1.cell? ⟨d, 0, none⟩ = some (.int .i64 n) := W1.out.c 0 rfl
 have w1_ : w1.cell? ⟨d, 1, none⟩ = some (.slice (some ⟨b, off, none⟩) 1 cap) := W1.out.c 1 rfl
 simp only [Act.put, pqA, pqB, pqC]
 refine VlS (.int .i64 0) ?_
 refine WL.nil (hK1 _ _ ?_)
 refine wp_seq_k fun K2 hK2 => rgn ?_
 refine VlS (.pointer (some ⟨d, 1, none⟩)) ?_
 refine VlS (.slice (some ⟨b, off, none⟩) 1 cap) ?_
 refine VlS (.pointer (some ⟨b, off, none⟩)) ?_
 refine WL.midA (by kernel_rfl) 69 (.tmp 14) rfl b off rfl (lvA x) _ (HR.out w1 B1.out) Try.underlying69 rfl (Try.sizeLf x) ?_
 simp only [Act.put, pqA, pqB, pqC]
 clear w0_ w1_
 refine WL.new (by kernel_rfl) 69 rfl _ Try.newLf ?_
 have F2 := Keep.mk (Blk.new w1 69 zLf)
 have b_ := below_new w1 (.cells zLf 69)
 change WL _ _ _ _ _ (w1.alloc (.cells zLf 69))
 generalize w1.alloc (.cells zLf 69) = w2 at *
 obtain ⟨f, hf0⟩ : ∃ z, Keep (z = w1.heap.size) := ⟨_, ⟨rfl⟩⟩
 rw [← hf0.out] at F2 ⊢
 have D2 := Keep.mk (W1.out.below b_ W1.out.lt)
 have B2 : Keep (Below w.heap.size w w2) := ⟨B1.out.trans (b_.mono B1.out.size)⟩
 have gf : Keep (w.heap.size ≤ f) := ⟨by rw [hf0.out]; exact B1.out.size⟩
 clear b_
 have nW1f : Keep (d ≠ f) := ⟨by have := W1.out.lt; have := hf0.out; omega⟩
 simp only [Act.put, pqA, pqB, pqC]
 refine WL.storeR (by kernel_rfl) 69 (.tmp 7) (.tmp 15) rfl f (lvA x) rfl rfl 69 zLf F2.out (Try.sizeLf x) rfl HX1.out ?_
 have F3 := Keep.mk (F2.out.setRow (lvA x))
 have B3 : Keep (Below w.heap.size w (w2.setRow f (lvA x))) := ⟨below_setRow B2.out gf.out _⟩
 have D3 := Keep.mk (D2.out.setRow_ne nW1f.out (lvA x))
 generalize w2.setRow f (lvA x) = w3 at *
 have f0 : w3.cell? ⟨f, 0, none⟩ = some (.int .i64 x.num) := F3.out.c 0 rfl
 have f1 : w3.cell? ⟨f, 1, none⟩ = some (.int .i64 x.c.k) := F3.out.c 1 rfl
 have f2 : w3.cell? ⟨f, 2, none⟩ = some (.string x.c.s) := F3.out.c 2 rfl
 have w0_ : w3.cell? ⟨d, 0, none⟩ = some (.int .i64 n) := D3.out.c 0 rfl
 have w1_ : w3.cell? ⟨d, 1, none⟩ = some (.slice (some ⟨b, off, none⟩) 1 cap) := D3.out.c 1 rfl
 simp only [Act.put]
 refine WL.nil (hK2 _ _ ?_)
 refine wp_seq_k fun K3 hK3 => rgn ?_
 refine VlS (.pointer (some ⟨f, 1, none⟩)) ?_
 refine VlS (.pointer (some ⟨f, 1, none⟩)) ?_
 refine VlS (.int .i64 x.c.k) ?_
 refine VlS (.pointer (some ⟨f, 1, none⟩)) ?_
 refine VlS (.pointer (some ⟨f, 2, none⟩)) ?_
 refine VlS (.string x.c.s) ?_
 refine VlS (.int .i64 kind) ?_
 refine VlS (.string key) ?_
 refine WL.callF (by kernel_rfl) 33 _ _ rfl Try.in33 #[.int .i64 x.c.k, .string x.c.s, .int .i64 kind, .string key] (by simp [Act.eval]) ?_
 refine (ahe_any x.c.k x.c.s kind key _).mono ?_
 rintro e w1_z ⟨rfl, hw_⟩
 refine ⟨_, rfl, ?_⟩
 have hw_ := hw_.symm
 subst hw_
 rw [hah.out]
 simp only [Act.put, pqA, pqB, pqC]
 refine VbF ?_
 refine WL.nil (hK3 _ _ ?_)
 refine wp_seq_k fun K4 hK4 => rgn ?_
 refine VlS (.int .i64 kind) ?_
 refine VlS (.string key) ?_
 refine VlS (.pointer (some ⟨f, 1, none⟩)) ?_
 refine VlS (.pointer (some ⟨f, 1, none⟩)) ?_
 refine VlS (.int .i64 x.c.k) ?_
 refine VlS (.pointer (some ⟨f, 1, none⟩)) ?_
 refine VlS (.pointer (some ⟨f, 2, none⟩)) ?_
 refine VlS (.string x.c.s) ?_
 refine WL.callF (by kernel_rfl) 33 _ _ rfl Try.in33 #[.int .i64 kind, .string key, .int .i64 x.c.k, .string x.c.s] (by simp [Act.eval]) ?_
 refine (ahe_any kind key x.c.k x.c.s _).mono ?_
 rintro e w1_z ⟨rfl, hw_⟩
 refine ⟨_, rfl, ?_⟩
 have hw_ := hw_.symm
 subst hw_
 rw [hbh.out]
 simp only [Act.put, pqA, pqB, pqC]
 refine VbT ?_
 refine WL.nil (hK4 _ _ ?_)
 refine wp_seq_k fun K5 hK5 => ?_
 refine wp_seq_k fun K6 hK6 => rgn ?_
 refine VlS (.pointer (some ⟨d, 1, none⟩)) ?_
 refine VlS (.slice (some ⟨b, off, none⟩) 1 cap) ?_
 refine VlS (.int .i64 1) ?_
 refine VbF ?_
 refine WL.nil (hK6 _ _ ?_)
 refine wp_cond_false rfl ?_
 refine wp_skip ?_
 refine hK5 _ _ ?_
 refine wp_seq_k fun K7 hK7 => ?_
 refine wp_block ?_
 refine wp_seq_k fun K8 hK8 => rgn ?_
 refine VbF ?_
 refine VbT ?_
 refine VbT ?_
 refine VbT ?_
 refine VbF ?_
 refine VbF ?_
 refine VbF ?_
 refine WL.nil (hK8 _ _ ?_)
 refine wp_cond_false rfl ?_
 refine wp_seq_k fun K9 hK9 => ?_
 refine wp_seq_k fun K10 hK10 => rgn ?_
 refine VbT ?_
 refine VbT ?_
 refine VlS (.pointer (some ⟨f, 0, none⟩)) ?_
 refine VlS (.int .i64 x.num) ?_
 refine VbT ?_
 refine VbT ?_
 refine VbT ?_
 refine WL.nil (hK10 _ _ ?_)
 refine wp_cond_true rfl ?_
 refine wp_skip ?_
 refine hK9 _ _ ?_
 refine wp_cond_true rfl ?_
 refine wp_seq_k fun K11 hK11 => rgn ?_
 refine VlS (.int .i64 0) ?_
 refine WL.nil (hK11 _ _ ?_)
 refine wp_ret ?_
 try simp only [Exit.inBlock, Exit.then]
 go_ret
 refine ⟨?_, B3.out⟩
 rw [hres.out]
 rfl
set_option maxRecDepth 8000 in
set_option maxHeartbeats 1000000 in
theorem sy_l0 (b off cap : Nat) (n kind : Int) (key : ByteArray) (x : LV) (w : World) (hs : sgn x kind key < 0) (hz : x.num = n - 1) (hn : 1 ≤ n ∧ n ≤ 9223372036854775807) (hx : 0 ≤ x.num ∧ x.num < n) (hL : LsAt w.heap.size w b off [x]) : Calls Try.prog 60 #[.int .i64 kind, .string key, .agg (wtA n (.slice (some ⟨b, off, none⟩) 1 cap))] w fun e w' => e = .returned (.int .i64 (saysI n [x] kind key)) ∧ Below w.heap.size w w' := by
 have hres : Keep (saysI n [x] kind key = 0) := ⟨by simp only [saysI]; rw [if_neg (by omega), if_pos (.inr ⟨hs, hz⟩)]⟩
 have HR : Keep (∀ wx, Below w.heap.size w wx → wx.rangeAt b off (lvA x).toList) := ⟨fun wx hb => by have h := (hL.below hb).at_ 0 x rfl; simpa using h⟩
 have HX1 : Keep ((lvA x).all (·.oneCell') = true) := ⟨lvA_one (hL.lf x (by simp))⟩
 skip
 skip
 have hwn : IntKind.i64.wrap (n - 1) = n - 1 := by rw [IntKind.wrap_i64]; omega
 have hwx : IntKind.i64.wrap (x.num + 1) = x.num + 1 := by rw [IntKind.wrap_i64]; omega
 have hah : Keep (aheI x.c.k x.c.s kind key = true) := ⟨by rw [ahx]; simp; omega⟩
 have hbh : Keep (aheI kind key x.c.k x.c.s = false) := ⟨by rw [bhx]; simp; omega⟩
 have hzb : (x.num == n - 1) = true := by simpa using hz
 clear hL hn hx hs
 go_enter Try.func60, Try.ntmps60
 refine wp_seq_k fun K1 hK1 => rgn ?_
 refine WL.box (by kernel_rfl) 31 (.tmp 2) rfl (wtA n (.slice (some ⟨b, off, none⟩) 1 cap)) rfl ?_
 have W1 := Keep.mk (Blk.new w 31 (wtA n (.slice (some ⟨b, off, none⟩) 1 cap)))
 have b_ := below_new w (.cells (wtA n (.slice (some ⟨b, off, none⟩) 1 cap)) 31)
 change WL _ _ _ _ _ (w.alloc (.cells (wtA n (.slice (some ⟨b, off, none⟩) 1 cap)) 31))
 generalize w.alloc (.cells (wtA n (.slice (some ⟨b, off, none⟩) 1 cap)) 31) = w1 at *
 obtain ⟨d, hd0⟩ : ∃ z, Keep (z = w.heap.size) := ⟨_, ⟨rfl⟩⟩
 rw [← hd0.out] at W1 ⊢
 have B1 : Keep (Below w.heap.size w w1) := ⟨b_⟩
 have gd : Keep (w.heap.size ≤ d) := ⟨by rw [hd0.out]; exact Nat.le_refl _⟩
 clear b_
 have w0_ : w1.cell? ⟨d, 0, none⟩ = some (.int .i64 n) := W1.out.c 0 rfl
 have w1_ : w1.cell? ⟨d, 1, none⟩ = some (.slice (some ⟨b, off, none⟩) 1 cap) := W1.out.c 1 rfl
 simp only [Act.put, pqA, pqB, pqC]
 refine VlS (.int .i64 0) ?_
 refine WL.nil (hK1 _ _ ?_)
 refine wp_seq_k fun K2 hK2 => rgn ?_
 refine VlS (.pointer (some ⟨d, 1, none⟩)) ?_
 refine VlS (.slice (some ⟨b, off, none⟩) 1 cap) ?_
 refine VlS (.pointer (some ⟨b, off, none⟩)) ?_
 refine WL.midA (by kernel_rfl) 69 (.tmp 14) rfl b off rfl (lvA x) _ (HR.out w1 B1.out) Try.underlying69 rfl (Try.sizeLf x) ?_
 simp only [Act.put, pqA, pqB, pqC]
 clear w0_ w1_
 refine WL.new (by kernel_rfl) 69 rfl _ Try.newLf ?_
 have F2 := Keep.mk (Blk.new w1 69 zLf)
 have b_ := below_new w1 (.cells zLf 69)
 change WL _ _ _ _ _ (w1.alloc (.cells zLf 69))
 generalize w1.alloc (.cells zLf 69) = w2 at *
 obtain ⟨f, hf0⟩ : ∃ z, Keep (z = w1.heap.size) := ⟨_, ⟨rfl⟩⟩
 rw [← hf0.out] at F2 ⊢
 have D2 := Keep.mk (W1.out.below b_ W1.out.lt)
 have B2 : Keep (Below w.heap.size w w2) := ⟨B1.out.trans (b_.mono B1.out.size)⟩
 have gf : Keep (w.heap.size ≤ f) := ⟨by rw [hf0.out]; exact B1.out.size⟩
 clear b_
 have nW1f : Keep (d ≠ f) := ⟨by have := W1.out.lt; have := hf0.out; omega⟩
 simp only [Act.put, pqA, pqB, pqC]
 refine WL.storeR (by kernel_rfl) 69 (.tmp 7) (.tmp 15) rfl f (lvA x) rfl rfl 69 zLf F2.out (Try.sizeLf x) rfl HX1.out ?_
 have F3 := Keep.mk (F2.out.setRow (lvA x))
 have B3 : Keep (Below w.heap.size w (w2.setRow f (lvA x))) := ⟨below_setRow B2.out gf.out _⟩
 have D3 := Keep.mk (D2.out.setRow_ne nW1f.out (lvA x))
 generalize w2.setRow f (lvA x) = w3 at *
 have f0 : w3.cell? ⟨f, 0, none⟩ = some (.int .i64 x.num) := F3.out.c 0 rfl
 have f1 : w3.cell? ⟨f, 1, none⟩ = some (.int .i64 x.c.k) := F3.out.c 1 rfl
 have f2 : w3.cell? ⟨f, 2, none⟩ = some (.string x.c.s) := F3.out.c 2 rfl
 have w0_ : w3.cell? ⟨d, 0, none⟩ = some (.int .i64 n) := D3.out.c 0 rfl
 have w1_ : w3.cell? ⟨d, 1, none⟩ = some (.slice (some ⟨b, off, none⟩) 1 cap) := D3.out.c 1 rfl
 simp only [Act.put]
 refine WL.nil (hK2 _ _ ?_)
 refine wp_seq_k fun K3 hK3 => rgn ?_
 refine VlS (.pointer (some ⟨f, 1, none⟩)) ?_
 refine VlS (.pointer (some ⟨f, 1, none⟩)) ?_
 refine VlS (.int .i64 x.c.k) ?_
 refine VlS (.pointer (some ⟨f, 1, none⟩)) ?_
 refine VlS (.pointer (some ⟨f, 2, none⟩)) ?_
 refine VlS (.string x.c.s) ?_
 refine VlS (.int .i64 kind) ?_
 refine VlS (.string key) ?_
 refine WL.callF (by kernel_rfl) 33 _ _ rfl Try.in33 #[.int .i64 x.c.k, .string x.c.s, .int .i64 kind, .string key] (by simp [Act.eval]) ?_
 refine (ahe_any x.c.k x.c.s kind key _).mono ?_
 rintro e w1_z ⟨rfl, hw_⟩
 refine ⟨_, rfl, ?_⟩
 have hw_ := hw_.symm
 subst hw_
 rw [hah.out]
 simp only [Act.put, pqA, pqB, pqC]
 refine VbT ?_
 refine WL.nil (hK3 _ _ ?_)
 refine wp_seq_k fun K4 hK4 => rgn ?_
 refine VlS (.int .i64 kind) ?_
 refine VlS (.string key) ?_
 refine VlS (.pointer (some ⟨f, 1, none⟩)) ?_
 refine VlS (.pointer (some ⟨f, 1, none⟩)) ?_
 refine VlS (.int .i64 x.c.k) ?_
 refine VlS (.pointer (some ⟨f, 1, none⟩)) ?_
 refine VlS (.pointer (some ⟨f, 2, none⟩)) ?_
 refine VlS (.string x.c.s) ?_
 refine WL.callF (by kernel_rfl) 33 _ _ rfl Try.in33 #[.int .i64 kind, .string key, .int .i64 x.c.k, .string x.c.s] (by simp [Act.eval]) ?_
 refine (ahe_any kind key x.c.k x.c.s _).mono ?_
 rintro e w1_z ⟨rfl, hw_⟩
 refine ⟨_, rfl, ?_⟩
 have hw_ := hw_.symm
 subst hw_
 rw [hbh.out]
 simp only [Act.put, pqA, pqB, pqC]
 refine VbF ?_
 refine WL.nil (hK4 _ _ ?_)
 refine wp_seq_k fun K5 hK5 => ?_
 refine wp_seq_k fun K6 hK6 => rgn ?_
 refine VlS (.pointer (some ⟨d, 1, none⟩)) ?_
 refine VlS (.slice (some ⟨b, off, none⟩) 1 cap) ?_
 refine VlS (.int .i64 1) ?_
 refine VbF ?_
 refine WL.nil (hK6 _ _ ?_)
 refine wp_cond_false rfl ?_
 refine wp_skip ?_
 refine hK5 _ _ ?_
 refine wp_seq_k fun K7 hK7 => ?_
 refine wp_block ?_
 refine wp_seq_k fun K8 hK8 => rgn ?_
 refine VbT ?_
 refine VbF ?_
 refine VbF ?_
 refine SkS ?_
 refine SkS ?_
 refine VbF ?_
 refine VbF ?_
 refine WL.nil (hK8 _ _ ?_)
 refine wp_cond_false rfl ?_
 refine wp_seq_k fun K9 hK9 => ?_
 refine wp_seq_k fun K10 hK10 => rgn ?_
 refine VbF ?_
 refine VbF ?_
 refine SkS ?_
 refine SkS ?_
 refine SkS ?_
 refine VbF ?_
 refine VbF ?_
 refine WL.nil (hK10 _ _ ?_)
 refine wp_cond_false rfl ?_
 refine rgn ?_
 refine VbT ?_
 refine VbT ?_
 refine VlS (.pointer (some ⟨f, 0, none⟩)) ?_
 refine VlS (.int .i64 x.num) ?_
 refine VlS (.pointer (some ⟨d, 0, none⟩)) ?_
 refine VlS (.int .i64 n) ?_
 refine VlS (.int .i64 (n - 1)) ?_
 refine VbT ?_
 refine VbT ?_
 refine VbT ?_
 refine WL.nil (hK9 _ _ ?_)
 refine wp_cond_true rfl ?_
 refine wp_seq_k fun K11 hK11 => rgn ?_
 refine VlS (.int .i64 0) ?_
 refine WL.nil (hK11 _ _ ?_)
 refine wp_ret ?_
 try simp only [Exit.inBlock, Exit.then]
 go_ret
 refine ⟨?_, B3.out⟩
 rw [hres.out]
 rfl
set_option maxRecDepth 8000 in
set_option maxHeartbeats 1000000 in
theorem sy_xb (b off cap : Nat) (n kind : Int) (key : ByteArray) (x y : LV) (w : World) (hs : sgn x kind key < 0) (hr : ¬ 0 < sgn y kind key) (hn : 1 ≤ n ∧ n ≤ 9223372036854775807) (hx : 0 ≤ x.num ∧ x.num < n) (hL : LsAt w.heap.size w b off [x, y]) : Calls Try.prog 60 #[.int .i64 kind, .string key, .agg (wtA n (.slice (some ⟨b, off, none⟩) 2 cap))] w fun e w' => e = .returned (.int .i64 (saysI n [x, y] kind key)) ∧ Below w.heap.size w w' := by
 have hres : Keep (saysI n [x, y] kind key = -1) := ⟨by simp only [saysI]; rw [if_neg (fun h => hr h.2.1)]⟩
 have HR : Keep (∀ wx, Below w.heap.size w wx → wx.rangeAt b off (lvA x).toList) := ⟨fun wx hb => by have h := (hL.below hb).at_ 0 x rfl; simpa using h⟩
 have HX1 : Keep ((lvA x).all (·.oneCell') = true) := ⟨lvA_one (hL.lf x (by simp))⟩
 have HR2 : Keep (∀ wx, Below w.heap.size w wx → wx.rangeAt b (off + 5) (lvA y).toList) := ⟨fun wx hb => by have h := (hL.below hb).at_ 1 y rfl; simpa using h⟩
 have HY1 : Keep ((lvA y).all (·.oneCell') = true) := ⟨lvA_one (hL.lf y (by simp))⟩
 have hwn : IntKind.i64.wrap (n - 1) = n - 1 := by rw [IntKind.wrap_i64]; omega
 have hwx : IntKind.i64.wrap (x.num + 1) = x.num + 1 := by rw [IntKind.wrap_i64]; omega
 have hah : Keep (aheI x.c.k x.c.s kind key = true) := ⟨by rw [ahx]; simp; omega⟩
 obtain ⟨bhv, hbh⟩ : ∃ z, Keep (aheI kind key x.c.k x.c.s = z) := ⟨_, ⟨rfl⟩⟩
 have hnx : Keep (aheI kind key y.c.k y.c.s = false) := ⟨by rw [bhx]; simp; omega⟩
 clear hL hn hx hs hr
 go_enter Try.func60, Try.ntmps60
 refine wp_seq_k fun K1 hK1 => rgn ?_
 refine WL.box (by kernel_rfl) 31 (.tmp 2) rfl (wtA n (.slice (some ⟨b, off, none⟩) 2 cap)) rfl ?_
 have W1 := Keep.mk (Blk.new w 31 (wtA n (.slice (some ⟨b, off, none⟩) 2 cap)))
 have b_ := below_new w (.cells (wtA n (.slice (some ⟨b, off, none⟩) 2 cap)) 31)
 change WL _ _ _ _ _ (w.alloc (.cells (wtA n (.slice (some ⟨b, off, none⟩) 2 cap)) 31))
 generalize w.alloc (.cells (wtA n (.slice (some ⟨b, off, none⟩) 2 cap)) 31) = w1 at *
 obtain ⟨d, hd0⟩ : ∃ z, Keep (z = w.heap.size) := ⟨_, ⟨rfl⟩⟩
 rw [← hd0.out] at W1 ⊢
 have B1 : Keep (Below w.heap.size w w1) := ⟨b_⟩
 have gd : Keep (w.heap.size ≤ d) := ⟨by rw [hd0.out]; exact Nat.le_refl _⟩
 clear b_
 have w0_ : w1.cell? ⟨d, 0, none⟩ = some (.int .i64 n) := W1.out.c 0 rfl
 have w1_ : w1.cell? ⟨d, 1, none⟩ = some (.slice (some ⟨b, off, none⟩) 2 cap) := W1.out.c 1 rfl
 simp only [Act.put, pqA, pqB, pqC]
 refine VlS (.int .i64 0) ?_
 refine WL.nil (hK1 _ _ ?_)
 refine wp_seq_k fun K2 hK2 => rgn ?_
 refine VlS (.pointer (some ⟨d, 1, none⟩)) ?_
 refine VlS (.slice (some ⟨b, off, none⟩) 2 cap) ?_
 refine VlS (.pointer (some ⟨b, off, none⟩)) ?_
 refine WL.midA (by kernel_rfl) 69 (.tmp 14) rfl b off rfl (lvA x) _ (HR.out w1 B1.out) Try.underlying69 rfl (Try.sizeLf x) ?_
 simp only [Act.put, pqA, pqB, pqC]
 clear w0_ w1_
 refine WL.new (by kernel_rfl) 69 rfl _ Try.newLf ?_
 have F2 := Keep.mk (Blk.new w1 69 zLf)
 have b_ := below_new w1 (.cells zLf 69)
 change WL _ _ _ _ _ (w1.alloc (.cells zLf 69))
 generalize w1.alloc (.cells zLf 69) = w2 at *
 obtain ⟨f, hf0⟩ : ∃ z, Keep (z = w1.heap.size) := ⟨_, ⟨rfl⟩⟩
 rw [← hf0.out] at F2 ⊢
 have D2 := Keep.mk (W1.out.below b_ W1.out.lt)
 have B2 : Keep (Below w.heap.size w w2) := ⟨B1.out.trans (b_.mono B1.out.size)⟩
 have gf : Keep (w.heap.size ≤ f) := ⟨by rw [hf0.out]; exact B1.out.size⟩
 clear b_
 have nW1f : Keep (d ≠ f) := ⟨by have := W1.out.lt; have := hf0.out; omega⟩
 simp only [Act.put, pqA, pqB, pqC]
 refine WL.storeR (by kernel_rfl) 69 (.tmp 7) (.tmp 15) rfl f (lvA x) rfl rfl 69 zLf F2.out (Try.sizeLf x) rfl HX1.out ?_
 have F3 := Keep.mk (F2.out.setRow (lvA x))
 have B3 : Keep (Below w.heap.size w (w2.setRow f (lvA x))) := ⟨below_setRow B2.out gf.out _⟩
 have D3 := Keep.mk (D2.out.setRow_ne nW1f.out (lvA x))
 generalize w2.setRow f (lvA x) = w3 at *
 have f0 : w3.cell? ⟨f, 0, none⟩ = some (.int .i64 x.num) := F3.out.c 0 rfl
 have f1 : w3.cell? ⟨f, 1, none⟩ = some (.int .i64 x.c.k) := F3.out.c 1 rfl
 have f2 : w3.cell? ⟨f, 2, none⟩ = some (.string x.c.s) := F3.out.c 2 rfl
 have w0_ : w3.cell? ⟨d, 0, none⟩ = some (.int .i64 n) := D3.out.c 0 rfl
 have w1_ : w3.cell? ⟨d, 1, none⟩ = some (.slice (some ⟨b, off, none⟩) 2 cap) := D3.out.c 1 rfl
 simp only [Act.put]
 refine WL.nil (hK2 _ _ ?_)
 refine wp_seq_k fun K3 hK3 => rgn ?_
 refine VlS (.pointer (some ⟨f, 1, none⟩)) ?_
 refine VlS (.pointer (some ⟨f, 1, none⟩)) ?_
 refine VlS (.int .i64 x.c.k) ?_
 refine VlS (.pointer (some ⟨f, 1, none⟩)) ?_
 refine VlS (.pointer (some ⟨f, 2, none⟩)) ?_
 refine VlS (.string x.c.s) ?_
 refine VlS (.int .i64 kind) ?_
 refine VlS (.string key) ?_
 refine WL.callF (by kernel_rfl) 33 _ _ rfl Try.in33 #[.int .i64 x.c.k, .string x.c.s, .int .i64 kind, .string key] (by simp [Act.eval]) ?_
 refine (ahe_any x.c.k x.c.s kind key _).mono ?_
 rintro e w1_z ⟨rfl, hw_⟩
 refine ⟨_, rfl, ?_⟩
 have hw_ := hw_.symm
 subst hw_
 rw [hah.out]
 simp only [Act.put, pqA, pqB, pqC]
 refine VbT ?_
 refine WL.nil (hK3 _ _ ?_)
 refine wp_seq_k fun K4 hK4 => rgn ?_
 refine VlS (.int .i64 kind) ?_
 refine VlS (.string key) ?_
 refine VlS (.pointer (some ⟨f, 1, none⟩)) ?_
 refine VlS (.pointer (some ⟨f, 1, none⟩)) ?_
 refine VlS (.int .i64 x.c.k) ?_
 refine VlS (.pointer (some ⟨f, 1, none⟩)) ?_
 refine VlS (.pointer (some ⟨f, 2, none⟩)) ?_
 refine VlS (.string x.c.s) ?_
 refine WL.callF (by kernel_rfl) 33 _ _ rfl Try.in33 #[.int .i64 kind, .string key, .int .i64 x.c.k, .string x.c.s] (by simp [Act.eval]) ?_
 refine (ahe_any kind key x.c.k x.c.s _).mono ?_
 rintro e w1_z ⟨rfl, hw_⟩
 refine ⟨_, rfl, ?_⟩
 have hw_ := hw_.symm
 subst hw_
 rw [hbh.out]
 simp only [Act.put, pqA, pqB, pqC]
 refine VlS (.bool bhv) ?_
 refine WL.nil (hK4 _ _ ?_)
 refine wp_seq_k fun K5 hK5 => ?_
 refine wp_seq_k fun K6 hK6 => rgn ?_
 refine VlS (.pointer (some ⟨d, 1, none⟩)) ?_
 refine VlS (.slice (some ⟨b, off, none⟩) 2 cap) ?_
 refine VlS (.int .i64 2) ?_
 refine VbT ?_
 refine WL.nil (hK6 _ _ ?_)
 refine wp_cond_true rfl ?_
 refine wp_seq_k fun K7 hK7 => rgn ?_
 refine VlS (.pointer (some ⟨d, 1, none⟩)) ?_
 refine VlS (.slice (some ⟨b, off, none⟩) 2 cap) ?_
 refine VlS (.pointer (some ⟨b, off + 5, none⟩)) ?_
 refine WL.midA (by kernel_rfl) 69 (.tmp 40) rfl b (off + 5) rfl (lvA y) _ (HR2.out w3 B3.out) Try.underlying69 rfl (Try.sizeLf y) ?_
 simp only [Act.put, pqA, pqB, pqC]
 clear f0 f1 f2 w0_ w1_
 refine WL.new (by kernel_rfl) 69 rfl _ Try.newLf ?_
 have L4 := Keep.mk (Blk.new w3 69 zLf)
 have b_ := below_new w3 (.cells zLf 69)
 change WL _ _ _ _ _ (w3.alloc (.cells zLf 69))
 generalize w3.alloc (.cells zLf 69) = w4 at *
 obtain ⟨l, hl0⟩ : ∃ z, Keep (z = w3.heap.size) := ⟨_, ⟨rfl⟩⟩
 rw [← hl0.out] at L4 ⊢
 have D4 := Keep.mk (D3.out.below b_ D3.out.lt)
 have F4 := Keep.mk (F3.out.below b_ F3.out.lt)
 have B4 : Keep (Below w.heap.size w w4) := ⟨B3.out.trans (b_.mono B3.out.size)⟩
 have gl : Keep (w.heap.size ≤ l) := ⟨by rw [hl0.out]; exact B3.out.size⟩
 clear b_
 have nD3l : Keep (d ≠ l) := ⟨by have := D3.out.lt; have := hl0.out; omega⟩
 have nF3l : Keep (f ≠ l) := ⟨by have := F3.out.lt; have := hl0.out; omega⟩
 simp only [Act.put, pqA, pqB, pqC]
 refine WL.storeR (by kernel_rfl) 69 (.tmp 10) (.tmp 41) rfl l (lvA y) rfl rfl 69 zLf L4.out (Try.sizeLf y) rfl HY1.out ?_
 have L5 := Keep.mk (L4.out.setRow (lvA y))
 have B5 : Keep (Below w.heap.size w (w4.setRow l (lvA y))) := ⟨below_setRow B4.out gl.out _⟩
 have D5 := Keep.mk (D4.out.setRow_ne nD3l.out (lvA y))
 have F5 := Keep.mk (F4.out.setRow_ne nF3l.out (lvA y))
 generalize w4.setRow l (lvA y) = w5 at *
 have f0 : w5.cell? ⟨f, 0, none⟩ = some (.int .i64 x.num) := F5.out.c 0 rfl
 have l0 : w5.cell? ⟨l, 0, none⟩ = some (.int .i64 y.num) := L5.out.c 0 rfl
 have l1 : w5.cell? ⟨l, 1, none⟩ = some (.int .i64 y.c.k) := L5.out.c 1 rfl
 have l2 : w5.cell? ⟨l, 2, none⟩ = some (.string y.c.s) := L5.out.c 2 rfl
 simp only [Act.put]
 refine WL.nil (hK7 _ _ ?_)
 refine wp_seq_k fun K8 hK8 => rgn ?_
 refine VlS (.int .i64 kind) ?_
 refine VlS (.string key) ?_
 refine VlS (.pointer (some ⟨l, 1, none⟩)) ?_
 refine VlS (.pointer (some ⟨l, 1, none⟩)) ?_
 refine VlS (.int .i64 y.c.k) ?_
 refine VlS (.pointer (some ⟨l, 1, none⟩)) ?_
 refine VlS (.pointer (some ⟨l, 2, none⟩)) ?_
 refine VlS (.string y.c.s) ?_
 refine WL.callF (by kernel_rfl) 33 _ _ rfl Try.in33 #[.int .i64 kind, .string key, .int .i64 y.c.k, .string y.c.s] (by simp [Act.eval]) ?_
 refine (ahe_any kind key y.c.k y.c.s _).mono ?_
 rintro e w1_z ⟨rfl, hw_⟩
 refine ⟨_, rfl, ?_⟩
 have hw_ := hw_.symm
 subst hw_
 rw [hnx.out]
 simp only [Act.put, pqA, pqB, pqC]
 refine VbF ?_
 refine WL.nil (hK8 _ _ ?_)
 refine wp_seq_k fun K9 hK9 => ?_
 refine wp_seq_k fun K10 hK10 => rgn ?_
 refine VbT ?_
 refine VbT ?_
 refine VbF ?_
 refine VbF ?_
 refine VbF ?_
 refine SkS ?_
 refine SkS ?_
 refine SkS ?_
 refine SkS ?_
 refine SkS ?_
 refine SkS ?_
 refine VbF ?_
 refine WL.nil (hK10 _ _ ?_)
 refine wp_cond_false rfl ?_
 refine wp_skip ?_
 refine hK9 _ _ ?_
 refine wp_seq_k fun K11 hK11 => rgn ?_
 refine VlS (.int .i64 (-1)) ?_
 refine WL.nil (hK11 _ _ ?_)
 refine wp_ret ?_
 try simp only [Exit.inBlock, Exit.then]
 go_ret
 refine ⟨?_, B5.out⟩
 rw [hres.out]
 rfl
set_option maxRecDepth 8000 in
set_option maxHeartbeats 1000000 in
theorem sy_xc (b off cap : Nat) (n kind : Int) (key : ByteArray) (x y : LV) (w : World) (hs : sgn x kind key < 0) (hr : 0 < sgn y kind key) (hz : y.num = x.num + 1) (hn : 1 ≤ n ∧ n ≤ 9223372036854775807) (hx : 0 ≤ x.num ∧ x.num < n) (hL : LsAt w.heap.size w b off [x, y]) : Calls Try.prog 60 #[.int .i64 kind, .string key, .agg (wtA n (.slice (some ⟨b, off, none⟩) 2 cap))] w fun e w' => e = .returned (.int .i64 (saysI n [x, y] kind key)) ∧ Below w.heap.size w w' := by
 have hres : Keep (saysI n [x, y] kind key = 0) := ⟨by simp only [saysI]; rw [if_pos ⟨hs, hr, hz⟩]⟩
 have HR : Keep (∀ wx, Below w.heap.size w wx → wx.rangeAt b off (lvA x).toList) := ⟨fun wx hb => by have h := (hL.below hb).at_ 0 x rfl; simpa using h⟩
 have HX1 : Keep ((lvA x).all (·.oneCell') = true) := ⟨lvA_one (hL.lf x (by simp))⟩
 have HR2 : Keep (∀ wx, Below w.heap.size w wx → wx.rangeAt b (off + 5) (lvA y).toList) := ⟨fun wx hb => by have h := (hL.below hb).at_ 1 y rfl; simpa using h⟩
 have HY1 : Keep ((lvA y).all (·.oneCell') = true) := ⟨lvA_one (hL.lf y (by simp))⟩
 have hwn : IntKind.i64.wrap (n - 1) = n - 1 := by rw [IntKind.wrap_i64]; omega
 have hwx : IntKind.i64.wrap (x.num + 1) = x.num + 1 := by rw [IntKind.wrap_i64]; omega
 have hah : Keep (aheI x.c.k x.c.s kind key = true) := ⟨by rw [ahx]; simp; omega⟩
 obtain ⟨bhv, hbh⟩ : ∃ z, Keep (aheI kind key x.c.k x.c.s = z) := ⟨_, ⟨rfl⟩⟩
 have hnx : Keep (aheI kind key y.c.k y.c.s = true) := ⟨by rw [bhx]; simp; omega⟩
 have hzb : (y.num == x.num + 1) = true := by simpa using hz
 clear hL hn hx hs hr
 go_enter Try.func60, Try.ntmps60
 refine wp_seq_k fun K1 hK1 => rgn ?_
 refine WL.box (by kernel_rfl) 31 (.tmp 2) rfl (wtA n (.slice (some ⟨b, off, none⟩) 2 cap)) rfl ?_
 have W1 := Keep.mk (Blk.new w 31 (wtA n (.slice (some ⟨b, off, none⟩) 2 cap)))
 have b_ := below_new w (.cells (wtA n (.slice (some ⟨b, off, none⟩) 2 cap)) 31)
 change WL _ _ _ _ _ (w.alloc (.cells (wtA n (.slice (some ⟨b, off, none⟩) 2 cap)) 31))
 generalize w.alloc (.cells (wtA n (.slice (some ⟨b, off, none⟩) 2 cap)) 31) = w1 at *
 obtain ⟨d, hd0⟩ : ∃ z, Keep (z = w.heap.size) := ⟨_, ⟨rfl⟩⟩
 rw [← hd0.out] at W1 ⊢
 have B1 : Keep (Below w.heap.size w w1) := ⟨b_⟩
 have gd : Keep (w.heap.size ≤ d) := ⟨by rw [hd0.out]; exact Nat.le_refl _⟩
 clear b_
 have w0_ : w1.cell? ⟨d, 0, none⟩ = some (.int .i64 n) := W1.out.c 0 rfl
 have w1_ : w1.cell? ⟨d, 1, none⟩ = some (.slice (some ⟨b, off, none⟩) 2 cap) := W1.out.c 1 rfl
 simp only [Act.put, pqA, pqB, pqC]
 refine VlS (.int .i64 0) ?_
 refine WL.nil (hK1 _ _ ?_)
 refine wp_seq_k fun K2 hK2 => rgn ?_
 refine VlS (.pointer (some ⟨d, 1, none⟩)) ?_
 refine VlS (.slice (some ⟨b, off, none⟩) 2 cap) ?_
 refine VlS (.pointer (some ⟨b, off, none⟩)) ?_
 refine WL.midA (by kernel_rfl) 69 (.tmp 14) rfl b off rfl (lvA x) _ (HR.out w1 B1.out) Try.underlying69 rfl (Try.sizeLf x) ?_
 simp only [Act.put, pqA, pqB, pqC]
 clear w0_ w1_
 refine WL.new (by kernel_rfl) 69 rfl _ Try.newLf ?_
 have F2 := Keep.mk (Blk.new w1 69 zLf)
 have b_ := below_new w1 (.cells zLf 69)
 change WL _ _ _ _ _ (w1.alloc (.cells zLf 69))
 generalize w1.alloc (.cells zLf 69) = w2 at *
 obtain ⟨f, hf0⟩ : ∃ z, Keep (z = w1.heap.size) := ⟨_, ⟨rfl⟩⟩
 rw [← hf0.out] at F2 ⊢
 have D2 := Keep.mk (W1.out.below b_ W1.out.lt)
 have B2 : Keep (Below w.heap.size w w2) := ⟨B1.out.trans (b_.mono B1.out.size)⟩
 have gf : Keep (w.heap.size ≤ f) := ⟨by rw [hf0.out]; exact B1.out.size⟩
 clear b_
 have nW1f : Keep (d ≠ f) := ⟨by have := W1.out.lt; have := hf0.out; omega⟩
 simp only [Act.put, pqA, pqB, pqC]
 refine WL.storeR (by kernel_rfl) 69 (.tmp 7) (.tmp 15) rfl f (lvA x) rfl rfl 69 zLf F2.out (Try.sizeLf x) rfl HX1.out ?_
 have F3 := Keep.mk (F2.out.setRow (lvA x))
 have B3 : Keep (Below w.heap.size w (w2.setRow f (lvA x))) := ⟨below_setRow B2.out gf.out _⟩
 have D3 := Keep.mk (D2.out.setRow_ne nW1f.out (lvA x))
 generalize w2.setRow f (lvA x) = w3 at *
 have f0 : w3.cell? ⟨f, 0, none⟩ = some (.int .i64 x.num) := F3.out.c 0 rfl
 have f1 : w3.cell? ⟨f, 1, none⟩ = some (.int .i64 x.c.k) := F3.out.c 1 rfl
 have f2 : w3.cell? ⟨f, 2, none⟩ = some (.string x.c.s) := F3.out.c 2 rfl
 have w0_ : w3.cell? ⟨d, 0, none⟩ = some (.int .i64 n) := D3.out.c 0 rfl
 have w1_ : w3.cell? ⟨d, 1, none⟩ = some (.slice (some ⟨b, off, none⟩) 2 cap) := D3.out.c 1 rfl
 simp only [Act.put]
 refine WL.nil (hK2 _ _ ?_)
 refine wp_seq_k fun K3 hK3 => rgn ?_
 refine VlS (.pointer (some ⟨f, 1, none⟩)) ?_
 refine VlS (.pointer (some ⟨f, 1, none⟩)) ?_
 refine VlS (.int .i64 x.c.k) ?_
 refine VlS (.pointer (some ⟨f, 1, none⟩)) ?_
 refine VlS (.pointer (some ⟨f, 2, none⟩)) ?_
 refine VlS (.string x.c.s) ?_
 refine VlS (.int .i64 kind) ?_
 refine VlS (.string key) ?_
 refine WL.callF (by kernel_rfl) 33 _ _ rfl Try.in33 #[.int .i64 x.c.k, .string x.c.s, .int .i64 kind, .string key] (by simp [Act.eval]) ?_
 refine (ahe_any x.c.k x.c.s kind key _).mono ?_
 rintro e w1_z ⟨rfl, hw_⟩
 refine ⟨_, rfl, ?_⟩
 have hw_ := hw_.symm
 subst hw_
 rw [hah.out]
 simp only [Act.put, pqA, pqB, pqC]
 refine VbT ?_
 refine WL.nil (hK3 _ _ ?_)
 refine wp_seq_k fun K4 hK4 => rgn ?_
 refine VlS (.int .i64 kind) ?_
 refine VlS (.string key) ?_
 refine VlS (.pointer (some ⟨f, 1, none⟩)) ?_
 refine VlS (.pointer (some ⟨f, 1, none⟩)) ?_
 refine VlS (.int .i64 x.c.k) ?_
 refine VlS (.pointer (some ⟨f, 1, none⟩)) ?_
 refine VlS (.pointer (some ⟨f, 2, none⟩)) ?_
 refine VlS (.string x.c.s) ?_
 refine WL.callF (by kernel_rfl) 33 _ _ rfl Try.in33 #[.int .i64 kind, .string key, .int .i64 x.c.k, .string x.c.s] (by simp [Act.eval]) ?_
 refine (ahe_any kind key x.c.k x.c.s _).mono ?_
 rintro e w1_z ⟨rfl, hw_⟩
 refine ⟨_, rfl, ?_⟩
 have hw_ := hw_.symm
 subst hw_
 rw [hbh.out]
 simp only [Act.put, pqA, pqB, pqC]
 refine VlS (.bool bhv) ?_
 refine WL.nil (hK4 _ _ ?_)
 refine wp_seq_k fun K5 hK5 => ?_
 refine wp_seq_k fun K6 hK6 => rgn ?_
 refine VlS (.pointer (some ⟨d, 1, none⟩)) ?_
 refine VlS (.slice (some ⟨b, off, none⟩) 2 cap) ?_
 refine VlS (.int .i64 2) ?_
 refine VbT ?_
 refine WL.nil (hK6 _ _ ?_)
 refine wp_cond_true rfl ?_
 refine wp_seq_k fun K7 hK7 => rgn ?_
 refine VlS (.pointer (some ⟨d, 1, none⟩)) ?_
 refine VlS (.slice (some ⟨b, off, none⟩) 2 cap) ?_
 refine VlS (.pointer (some ⟨b, off + 5, none⟩)) ?_
 refine WL.midA (by kernel_rfl) 69 (.tmp 40) rfl b (off + 5) rfl (lvA y) _ (HR2.out w3 B3.out) Try.underlying69 rfl (Try.sizeLf y) ?_
 simp only [Act.put, pqA, pqB, pqC]
 clear f0 f1 f2 w0_ w1_
 refine WL.new (by kernel_rfl) 69 rfl _ Try.newLf ?_
 have L4 := Keep.mk (Blk.new w3 69 zLf)
 have b_ := below_new w3 (.cells zLf 69)
 change WL _ _ _ _ _ (w3.alloc (.cells zLf 69))
 generalize w3.alloc (.cells zLf 69) = w4 at *
 obtain ⟨l, hl0⟩ : ∃ z, Keep (z = w3.heap.size) := ⟨_, ⟨rfl⟩⟩
 rw [← hl0.out] at L4 ⊢
 have D4 := Keep.mk (D3.out.below b_ D3.out.lt)
 have F4 := Keep.mk (F3.out.below b_ F3.out.lt)
 have B4 : Keep (Below w.heap.size w w4) := ⟨B3.out.trans (b_.mono B3.out.size)⟩
 have gl : Keep (w.heap.size ≤ l) := ⟨by rw [hl0.out]; exact B3.out.size⟩
 clear b_
 have nD3l : Keep (d ≠ l) := ⟨by have := D3.out.lt; have := hl0.out; omega⟩
 have nF3l : Keep (f ≠ l) := ⟨by have := F3.out.lt; have := hl0.out; omega⟩
 simp only [Act.put, pqA, pqB, pqC]
 refine WL.storeR (by kernel_rfl) 69 (.tmp 10) (.tmp 41) rfl l (lvA y) rfl rfl 69 zLf L4.out (Try.sizeLf y) rfl HY1.out ?_
 have L5 := Keep.mk (L4.out.setRow (lvA y))
 have B5 : Keep (Below w.heap.size w (w4.setRow l (lvA y))) := ⟨below_setRow B4.out gl.out _⟩
 have D5 := Keep.mk (D4.out.setRow_ne nD3l.out (lvA y))
 have F5 := Keep.mk (F4.out.setRow_ne nF3l.out (lvA y))
 generalize w4.setRow l (lvA y) = w5 at *
 have f0 : w5.cell? ⟨f, 0, none⟩ = some (.int .i64 x.num) := F5.out.c 0 rfl
 have l0 : w5.cell? ⟨l, 0, none⟩ = some (.int .i64 y.num) := L5.out.c 0 rfl
 have l1 : w5.cell? ⟨l, 1, none⟩ = some (.int .i64 y.c.k) := L5.out.c 1 rfl
 have l2 : w5.cell? ⟨l, 2, none⟩ = some (.string y.c.s) := L5.out.c 2 rfl
 simp only [Act.put]
 refine WL.nil (hK7 _ _ ?_)
 refine wp_seq_k fun K8 hK8 => rgn ?_
 refine VlS (.int .i64 kind) ?_
 refine VlS (.string key) ?_
 refine VlS (.pointer (some ⟨l, 1, none⟩)) ?_
 refine VlS (.pointer (some ⟨l, 1, none⟩)) ?_
 refine VlS (.int .i64 y.c.k) ?_
 refine VlS (.pointer (some ⟨l, 1, none⟩)) ?_
 refine VlS (.pointer (some ⟨l, 2, none⟩)) ?_
 refine VlS (.string y.c.s) ?_
 refine WL.callF (by kernel_rfl) 33 _ _ rfl Try.in33 #[.int .i64 kind, .string key, .int .i64 y.c.k, .string y.c.s] (by simp [Act.eval]) ?_
 refine (ahe_any kind key y.c.k y.c.s _).mono ?_
 rintro e w1_z ⟨rfl, hw_⟩
 refine ⟨_, rfl, ?_⟩
 have hw_ := hw_.symm
 subst hw_
 rw [hnx.out]
 simp only [Act.put, pqA, pqB, pqC]
 refine VbT ?_
 refine WL.nil (hK8 _ _ ?_)
 refine wp_seq_k fun K9 hK9 => ?_
 refine wp_seq_k fun K10 hK10 => rgn ?_
 refine VbT ?_
 refine VbT ?_
 refine VbT ?_
 refine VbT ?_
 refine VbT ?_
 refine VlS (.pointer (some ⟨l, 0, none⟩)) ?_
 refine VlS (.int .i64 y.num) ?_
 refine VlS (.pointer (some ⟨f, 0, none⟩)) ?_
 refine VlS (.int .i64 x.num) ?_
 refine VlS (.int .i64 (x.num + 1)) ?_
 refine VbT ?_
 refine VbT ?_
 refine WL.nil (hK10 _ _ ?_)
 refine wp_cond_true rfl ?_
 refine wp_seq_k fun K11 hK11 => rgn ?_
 refine VlS (.int .i64 0) ?_
 refine WL.nil (hK11 _ _ ?_)
 refine wp_ret ?_
 try simp only [Exit.inBlock, Exit.then]
 go_ret
 refine ⟨?_, B5.out⟩
 rw [hres.out]
 rfl

end Go.Proofs.Ytjklmkeedhgncaa
