import Derived.Test.YtjklmkeedhgncaaA13
import Derived.Test.YtjklmkeedhgncaaA14
import Derived.Test.YtjklmkeedhgncaaA15
import Derived.Test.YtjklmkeedhgncaaA16
import Derived.Deep.RegionHeld3
namespace Go.Proofs.Ytjklmkeedhgncaa
open Go.RowKit
set_option linter.unusedSimpArgs false
set_option linter.unusedVariables false
theorem Try.in39 (w : World) (vs : Array Value) : (callFunc 39 vs).run Try.prog w = .ok (.enter 39 vs) w := by kernel_rfl
theorem Try.in16 (w : World) (vs : Array Value) : (callFunc 16 vs).run Try.prog w = .ok (.enter 16 vs) w := by kernel_rfl
def wlkR (n : Int) (ls : List LV) : List (List Int) := if n = 0 then [2 :: (le8 0 ++ [])] else ls.flatMap (rwsOf n.toNat)
def WkP (root : Hs) (n kind : Int) (key : ByteArray) (ls : List LV) (w : World) (e : Ending) (w' : World) : Prop :=
 ∃ (c : CV) (vr : Value), e = .returned (.tuple #[.agg (cvA c), .bool (chkI root n kind key ls), .int .i64 (chkE root n kind key ls), vr]) ∧ RowAt w' c.v c.l ∧ Below w.heap.size w w' ∧
  (chkI root n kind key ls = false → c = ⟨0, ByteArray.empty, .slice none 0 0, []⟩) ∧ (∀ x, chkI root n kind key ls = true → ls = [x] → c = x.c) ∧ (chkE root n kind key ls = 0 → ∃ us, RsV w' vr us (wlkR n ls))
theorem ans_says {n kind : Int} {key : ByteArray} {ls : List LV} (h1 : 1 ≤ ls.length) (h2 : ls.length ≤ 2) : ansB n ls kind key = decide (0 ≤ saysI n ls kind key) ∧ tellB ls kind key = decide (saysI n ls kind key = 1) := by
 match ls, h1, h2 with
 | [x], _, _ =>
  simp only [ansB, saysI, tellB]
  show _ ∧ decide (sgn x kind key = 0) = _
  rcases Int.lt_trichotomy (sgn x kind key) 0 with hs | hs | hs
  ·have e1 : ¬ sgn x kind key = 0 := by omega
   have e2 : ¬ 0 < sgn x kind key := by omega
   by_cases hz : x.num = n - 1
   ·simp [e1, e2, hs, hz]
   ·simp [e1, e2, hs, hz]
  ·simp [hs]
  ·have e1 : ¬ sgn x kind key = 0 := by omega
   have e2 : ¬ sgn x kind key < 0 := by omega
   by_cases hz : x.num = 0
   ·simp [e1, e2, hs, hz]
   ·simp [e1, e2, hs, hz]
 | [x, y], _, _ =>
  simp only [ansB, saysI, tellB]
  by_cases a : sgn x kind key < 0
  ·by_cases b : 0 < sgn y kind key
   ·by_cases c : y.num = x.num + 1
    ·simp [a, b, c]
    ·simp [a, b, c]
   ·simp [a, b]
  ·simp [a]
theorem results_cell_row4 {P : Program} {fn : Func} {p u u' u'' : Tmp} {ty : TypeId} (h : fn.results = #[.cell p ty, .tmp u, .tmp u', .tmp u'']) (tmps : Array Value) (w : World) (g : Nat) (t : TypeId) (cs : Array Value) (fr : Nat × Nat) (d : TypeDesc) (y y' y'' : Value)
  (hp : tmps.getD p undef = .pointer (some ⟨g, 0, none⟩)) (hy : tmps.getD u undef = y) (hy' : tmps.getD u' undef = y') (hy'' : tmps.getD u'' undef = y'') (hg : w.heap[g]? = some (.cells cs t fr))
  (hu : P.underlying ty = some d) (hd : (match d with | .struct _ | .array _ _ => true | _ => false) = true) (hi : (P.info? ty).map (·.size) = some cs.size) :
  (results fn tmps).run P w = .ok (.tuple #[.agg cs, y, y', y'']) w := by
 have hr := run_loadVar_row (P := P) w g t ty cs fr d hg hu hd hi
 simp only [results, h]
 simp only [Array.getD_eq_getD_getElem?] at hp hy hy' hy''
 simp [Result.andThen, asAddr, hp, hy, hy', hy'', hr]
theorem chkE_of {root : Hs} {n kind : Int} {key : ByteArray} {ls : List LV} (hk : kmay kind = true) (h : takB root n kind key ls = false) : chkE root n kind key ls = 190 ∧ chkI root n kind key ls = false := by
 have e : chkE root n kind key ls = 190 := by unfold chkE; rw [hk, h]; rfl
 exact ⟨e, by unfold chkI; rw [e]; rfl⟩
theorem chkE_ok {root : Hs} {n kind : Int} {key : ByteArray} {ls : List LV} (hk : kmay kind = true) (h : takB root n kind key ls = true) : chkE root n kind key ls = 0 ∧ chkI root n kind key ls = tellB ls kind key := by
 have e : chkE root n kind key ls = 0 := by unfold chkE; rw [hk, h]; rfl
 exact ⟨e, by unfold chkI; rw [e]; simp⟩
set_option maxRecDepth 8000 in
set_option maxHeartbeats 1000000 in
theorem wk_kind (la : Option Addr) (m cap : Nat) (n kind : Int) (key : ByteArray) (ls : List LV) (root : Hs) (w : World) (hml : Keep (ls.length = m)) (hkm : kmay kind = false) : Calls Try.prog 39 #[.agg (bytesA 32 root.f), .int .i64 kind, .string key, .agg (wtA n (.slice la m cap))] w (WkP root n kind key ls w) := by
 have hE : Keep (chkE root n kind key ls = 40) := ⟨by unfold chkE; rw [hkm]; rfl⟩
 have hI : Keep (chkI root n kind key ls = false) := ⟨by unfold chkI; rw [hE.out]; rfl⟩
 go_enter Try.func39, Try.ntmps39
 refine wp_seq_k fun K1 hK1 => rgn ?_
 refine WL.box (by kernel_rfl) 25 (.tmp 0) rfl (bytesA 32 root.f) rfl ?_
 have Q1 := Keep.mk (Blk.new w 25 (bytesA 32 root.f))
 have b_ := below_new w (.cells (bytesA 32 root.f) 25)
 change WL _ _ _ _ _ (w.alloc (.cells (bytesA 32 root.f) 25))
 generalize w.alloc (.cells (bytesA 32 root.f) 25) = w1 at *
 obtain ⟨q, hq0⟩ : ∃ z, Keep (z = w.heap.size) := ⟨_, ⟨rfl⟩⟩
 rw [← hq0.out] at Q1 ⊢
 have B1 : Keep (Below w.heap.size w w1) := ⟨b_⟩
 have gq : Keep (w.heap.size ≤ q) := ⟨by rw [hq0.out]; exact Nat.le_refl _⟩
 clear b_
 simp only [Act.put, pqA, pqB, pqC]
 refine WL.box (by kernel_rfl) 31 (.tmp 3) rfl (wtA n (.slice la m cap)) rfl ?_
 have D2 := Keep.mk (Blk.new w1 31 (wtA n (.slice la m cap)))
 have b_ := below_new w1 (.cells (wtA n (.slice la m cap)) 31)
 change WL _ _ _ _ _ (w1.alloc (.cells (wtA n (.slice la m cap)) 31))
 generalize w1.alloc (.cells (wtA n (.slice la m cap)) 31) = w2 at *
 obtain ⟨d, hd0⟩ : ∃ z, Keep (z = w1.heap.size) := ⟨_, ⟨rfl⟩⟩
 rw [← hd0.out] at D2 ⊢
 have Q2 := Keep.mk (Q1.out.below b_ Q1.out.lt)
 have B2 : Keep (Below w.heap.size w w2) := ⟨B1.out.trans (b_.mono B1.out.size)⟩
 have gd : Keep (w.heap.size ≤ d) := ⟨by rw [hd0.out]; exact B1.out.size⟩
 clear b_
 simp only [Act.put, pqA, pqB, pqC]
 refine WL.new (by kernel_rfl) 40 rfl _ Try.newC ?_
 have R3 := Keep.mk (Blk.new w2 40 #[.int .i64 0, .string ByteArray.empty, .slice none 0 0])
 have b_ := below_new w2 (.cells #[.int .i64 0, .string ByteArray.empty, .slice none 0 0] 40)
 change WL _ _ _ _ _ (w2.alloc (.cells #[.int .i64 0, .string ByteArray.empty, .slice none 0 0] 40))
 generalize w2.alloc (.cells #[.int .i64 0, .string ByteArray.empty, .slice none 0 0] 40) = w3 at *
 obtain ⟨r, hr0⟩ : ∃ z, Keep (z = w2.heap.size) := ⟨_, ⟨rfl⟩⟩
 rw [← hr0.out] at R3 ⊢
 have Q3 := Keep.mk (Q2.out.below b_ Q2.out.lt)
 have D3 := Keep.mk (D2.out.below b_ D2.out.lt)
 have B3 : Keep (Below w.heap.size w w3) := ⟨B2.out.trans (b_.mono B2.out.size)⟩
 have gr : Keep (w.heap.size ≤ r) := ⟨by rw [hr0.out]; exact B2.out.size⟩
 clear b_
 simp only [Act.put, pqA, pqB, pqC]
 refine VbF ?_
 refine VlS (.int .i64 0) ?_
 refine VlS (.slice none 0 0) ?_
 refine WL.nil (hK1 _ _ ?_)
 refine wp_seq_k fun K2 hK2 => rgn ?_
 refine WL.bld (by kernel_rfl) 61 #[] rfl [] (by simp) _ bld_bk ?_
 simp only [Act.put, pqA, pqB, pqC]
 refine WL.box (by kernel_rfl) 61 (.tmp 17) rfl #[.slice none 0 0] rfl ?_
 have K4 := Keep.mk (BkH.new w3)
 have b_ := below_new w3 (.cells #[.slice none 0 0] 61)
 generalize w3.alloc (.cells #[.slice none 0 0] 61) = w4 at *
 obtain ⟨x, hx⟩ : ∃ z, Keep (z = w3.heap.size) := ⟨_, ⟨rfl⟩⟩
 have BK4 : Keep (BkH w.heap.size w4 x []) := ⟨by
  have h := K4.out
  rw [hx.out]
  exact ⟨Nat.le_trans B3.out.size h.ge, by
   obtain ⟨vr, cs, h1, h2, h3, h4⟩ := h.ex
   have hn : cs.length = 0 := by rw [h3]; rfl
   exact ⟨vr, cs, h1, ⟨h2.1, by
    rcases h2.2 with h5 | ⟨g', c', cur, h5, h6, h7⟩
    ·exact .inl h5
    ·exact .inr ⟨g', c', cur, h5, Nat.le_trans B3.out.size h6, h7⟩⟩, h3, h4⟩⟩⟩
 rw [← hx.out]
 have Q4 := Keep.mk (Q3.out.below b_ Q3.out.lt)
 have D4 := Keep.mk (D3.out.below b_ D3.out.lt)
 have R4 := Keep.mk (R3.out.below b_ R3.out.lt)
 have B4 : Keep (Below w.heap.size w w4) := ⟨B3.out.trans (b_.mono B3.out.size)⟩
 clear b_ K4 Q3 D3 R3 hx
 have w0_ : w4.cell? ⟨d, 0, none⟩ = some (.int .i64 n) := D4.out.c 0 rfl
 have w1_ : w4.cell? ⟨d, 1, none⟩ = some (.slice la m cap) := D4.out.c 1 rfl
 simp only [Act.put, pqA, pqB, pqC]
 refine VlS (.pointer (some ⟨x, 0, none⟩)) ?_
 refine WL.nil (hK2 _ _ ?_)
 refine wp_seq_k fun K3 hK3 => rgn ?_
 refine VlS (.int .i64 kind) ?_
 refine WL.callF (by kernel_rfl) 31 _ _ rfl Try.in31 #[.int .i64 kind] (by simp [Act.eval]) ?_
 refine (kmay_any kind _).mono ?_
 rintro e w1_z ⟨rfl, hw_⟩
 refine ⟨_, rfl, ?_⟩
 have hw_ := hw_.symm
 subst hw_
 rw [hkm]
 simp only [Act.put, pqA, pqB, pqC]
 refine VbF ?_
 refine WL.nil (hK3 _ _ ?_)
 refine wp_seq_k fun K4 hK4 => ?_
 refine wp_seq_k fun K5 hK5 => rgn ?_
 refine VbF ?_
 refine VbT ?_
 refine WL.nil (hK5 _ _ ?_)
 refine wp_cond_true rfl ?_
 refine wp_seq_k fun K6 hK6 => rgn ?_
 refine WL.bld (by kernel_rfl) 40 #[] rfl [] (by simp) #[.int .i64 0, .string ByteArray.empty, .slice none 0 0] bldC ?_
 simp only [Act.put, pqA, pqB, pqC]
 refine WL.storeR (by kernel_rfl) 40 (.tmp 8) (.tmp 23) rfl r #[.int .i64 0, .string ByteArray.empty, .slice none 0 0] rfl rfl 40 #[.int .i64 0, .string ByteArray.empty, .slice none 0 0] R4.out (Try.sizeC _ _ _) rfl (by simp [Value.oneCell']) ?_
 have R9 := Keep.mk (R4.out.setRow #[.int .i64 0, .string ByteArray.empty, .slice none 0 0])
 have B9 : Keep (Below w.heap.size w (w4.setRow r #[.int .i64 0, .string ByteArray.empty, .slice none 0 0])) := ⟨below_setRow B4.out gr.out _⟩
 generalize w4.setRow r #[.int .i64 0, .string ByteArray.empty, .slice none 0 0] = w9 at *
 simp only [Act.put]
 refine VbF ?_
 refine VlS (.int .i64 40) ?_
 refine VlS (.slice none 0 0) ?_
 refine WL.nil (hK6 _ _ ?_)
 refine wp_ret ?_
 try simp only [Exit.inBlock, Exit.then]
 refine bodyPost_ret (v := .tuple #[.agg #[.int .i64 0, .string ByteArray.empty, .slice none 0 0], .bool false, .int .i64 40, .slice none 0 0]) (results_cell_row4 Try.results39 _ _ r 40 _ (0, 0) _ _ _ _ rfl rfl rfl rfl R9.out Try.underlying40 rfl (Try.sizeC _ _ _)) rfl ⟨⟨0, ByteArray.empty, .slice none 0 0, []⟩, .slice none 0 0, ?_, .inl ⟨rfl, rfl⟩, B9.out, fun _ => rfl, fun y h => (by rw [hI.out] at h; cases h), fun h => by rw [hE.out] at h; cases h⟩
 rw [hE.out, hI.out] <;> rfl
set_option maxRecDepth 8000 in
set_option maxHeartbeats 1000000 in
theorem wk_neg (la : Option Addr) (m cap : Nat) (n kind : Int) (key : ByteArray) (ls : List LV) (root : Hs) (w : World) (hml : Keep (ls.length = m)) (hkm : kmay kind = true) (hc : n < 0) : Calls Try.prog 39 #[.agg (bytesA 32 root.f), .int .i64 kind, .string key, .agg (wtA n (.slice la m cap))] w (WkP root n kind key ls w) := by
 have hfb : formB n ls = false := by
  unfold formB
  rw [if_neg (by omega), if_pos (.inl hc)]
 have hEI := chkE_of (root := root) (key := key) hkm (show takB root n kind key ls = false from by unfold takB; rw [hfb]; rfl)
 have hE := Keep.mk hEI.1
 have hI := Keep.mk hEI.2
 clear hEI hfb
 go_enter Try.func39, Try.ntmps39
 refine wp_seq_k fun K1 hK1 => rgn ?_
 refine WL.box (by kernel_rfl) 25 (.tmp 0) rfl (bytesA 32 root.f) rfl ?_
 have Q1 := Keep.mk (Blk.new w 25 (bytesA 32 root.f))
 have b_ := below_new w (.cells (bytesA 32 root.f) 25)
 change WL _ _ _ _ _ (w.alloc (.cells (bytesA 32 root.f) 25))
 generalize w.alloc (.cells (bytesA 32 root.f) 25) = w1 at *
 obtain ⟨q, hq0⟩ : ∃ z, Keep (z = w.heap.size) := ⟨_, ⟨rfl⟩⟩
 rw [← hq0.out] at Q1 ⊢
 have B1 : Keep (Below w.heap.size w w1) := ⟨b_⟩
 have gq : Keep (w.heap.size ≤ q) := ⟨by rw [hq0.out]; exact Nat.le_refl _⟩
 clear b_
 simp only [Act.put, pqA, pqB, pqC]
 refine WL.box (by kernel_rfl) 31 (.tmp 3) rfl (wtA n (.slice la m cap)) rfl ?_
 have D2 := Keep.mk (Blk.new w1 31 (wtA n (.slice la m cap)))
 have b_ := below_new w1 (.cells (wtA n (.slice la m cap)) 31)
 change WL _ _ _ _ _ (w1.alloc (.cells (wtA n (.slice la m cap)) 31))
 generalize w1.alloc (.cells (wtA n (.slice la m cap)) 31) = w2 at *
 obtain ⟨d, hd0⟩ : ∃ z, Keep (z = w1.heap.size) := ⟨_, ⟨rfl⟩⟩
 rw [← hd0.out] at D2 ⊢
 have Q2 := Keep.mk (Q1.out.below b_ Q1.out.lt)
 have B2 : Keep (Below w.heap.size w w2) := ⟨B1.out.trans (b_.mono B1.out.size)⟩
 have gd : Keep (w.heap.size ≤ d) := ⟨by rw [hd0.out]; exact B1.out.size⟩
 clear b_
 simp only [Act.put, pqA, pqB, pqC]
 refine WL.new (by kernel_rfl) 40 rfl _ Try.newC ?_
 have R3 := Keep.mk (Blk.new w2 40 #[.int .i64 0, .string ByteArray.empty, .slice none 0 0])
 have b_ := below_new w2 (.cells #[.int .i64 0, .string ByteArray.empty, .slice none 0 0] 40)
 change WL _ _ _ _ _ (w2.alloc (.cells #[.int .i64 0, .string ByteArray.empty, .slice none 0 0] 40))
 generalize w2.alloc (.cells #[.int .i64 0, .string ByteArray.empty, .slice none 0 0] 40) = w3 at *
 obtain ⟨r, hr0⟩ : ∃ z, Keep (z = w2.heap.size) := ⟨_, ⟨rfl⟩⟩
 rw [← hr0.out] at R3 ⊢
 have Q3 := Keep.mk (Q2.out.below b_ Q2.out.lt)
 have D3 := Keep.mk (D2.out.below b_ D2.out.lt)
 have B3 : Keep (Below w.heap.size w w3) := ⟨B2.out.trans (b_.mono B2.out.size)⟩
 have gr : Keep (w.heap.size ≤ r) := ⟨by rw [hr0.out]; exact B2.out.size⟩
 clear b_
 simp only [Act.put, pqA, pqB, pqC]
 refine VbF ?_
 refine VlS (.int .i64 0) ?_
 refine VlS (.slice none 0 0) ?_
 refine WL.nil (hK1 _ _ ?_)
 refine wp_seq_k fun K2 hK2 => rgn ?_
 refine WL.bld (by kernel_rfl) 61 #[] rfl [] (by simp) _ bld_bk ?_
 simp only [Act.put, pqA, pqB, pqC]
 refine WL.box (by kernel_rfl) 61 (.tmp 17) rfl #[.slice none 0 0] rfl ?_
 have K4 := Keep.mk (BkH.new w3)
 have b_ := below_new w3 (.cells #[.slice none 0 0] 61)
 generalize w3.alloc (.cells #[.slice none 0 0] 61) = w4 at *
 obtain ⟨x, hx⟩ : ∃ z, Keep (z = w3.heap.size) := ⟨_, ⟨rfl⟩⟩
 have BK4 : Keep (BkH w.heap.size w4 x []) := ⟨by
  have h := K4.out
  rw [hx.out]
  exact ⟨Nat.le_trans B3.out.size h.ge, by
   obtain ⟨vr, cs, h1, h2, h3, h4⟩ := h.ex
   have hn : cs.length = 0 := by rw [h3]; rfl
   exact ⟨vr, cs, h1, ⟨h2.1, by
    rcases h2.2 with h5 | ⟨g', c', cur, h5, h6, h7⟩
    ·exact .inl h5
    ·exact .inr ⟨g', c', cur, h5, Nat.le_trans B3.out.size h6, h7⟩⟩, h3, h4⟩⟩⟩
 rw [← hx.out]
 have Q4 := Keep.mk (Q3.out.below b_ Q3.out.lt)
 have D4 := Keep.mk (D3.out.below b_ D3.out.lt)
 have R4 := Keep.mk (R3.out.below b_ R3.out.lt)
 have B4 : Keep (Below w.heap.size w w4) := ⟨B3.out.trans (b_.mono B3.out.size)⟩
 clear b_ K4 Q3 D3 R3 hx
 have w0_ : w4.cell? ⟨d, 0, none⟩ = some (.int .i64 n) := D4.out.c 0 rfl
 have w1_ : w4.cell? ⟨d, 1, none⟩ = some (.slice la m cap) := D4.out.c 1 rfl
 simp only [Act.put, pqA, pqB, pqC]
 refine VlS (.pointer (some ⟨x, 0, none⟩)) ?_
 refine WL.nil (hK2 _ _ ?_)
 refine wp_seq_k fun K3 hK3 => rgn ?_
 refine VlS (.int .i64 kind) ?_
 refine WL.callF (by kernel_rfl) 31 _ _ rfl Try.in31 #[.int .i64 kind] (by simp [Act.eval]) ?_
 refine (kmay_any kind _).mono ?_
 rintro e w1_z ⟨rfl, hw_⟩
 refine ⟨_, rfl, ?_⟩
 have hw_ := hw_.symm
 subst hw_
 rw [hkm]
 simp only [Act.put, pqA, pqB, pqC]
 refine VbT ?_
 refine WL.nil (hK3 _ _ ?_)
 refine wp_seq_k fun K4 hK4 => ?_
 refine wp_seq_k fun K5 hK5 => rgn ?_
 refine VbT ?_
 refine VbF ?_
 refine WL.nil (hK5 _ _ ?_)
 refine wp_cond_false rfl ?_
 refine wp_skip ?_
 refine hK4 _ _ ?_
 refine wp_seq_k fun K6 hK6 => ?_
 refine wp_seq_k fun K7 hK7 => rgn ?_
 refine VlS (.pointer (some ⟨d, 0, none⟩)) ?_
 refine VlS (.int .i64 n) ?_
 refine VbT ?_
 refine VbT ?_
 refine SkS ?_
 refine SkS ?_
 refine SkS ?_
 refine SkS ?_
 refine VbT ?_
 refine VbT ?_
 refine SkS ?_
 refine SkS ?_
 refine SkS ?_
 refine SkS ?_
 refine SkS ?_
 refine SkS ?_
 refine SkS ?_
 refine SkS ?_
 refine VbT ?_
 refine WL.nil (hK7 _ _ ?_)
 refine wp_cond_true rfl ?_
 refine wp_seq_k fun K8 hK8 => rgn ?_
 refine WL.bld (by kernel_rfl) 40 #[] rfl [] (by simp) #[.int .i64 0, .string ByteArray.empty, .slice none 0 0] bldC ?_
 simp only [Act.put, pqA, pqB, pqC]
 refine WL.storeR (by kernel_rfl) 40 (.tmp 8) (.tmp 43) rfl r #[.int .i64 0, .string ByteArray.empty, .slice none 0 0] rfl rfl 40 #[.int .i64 0, .string ByteArray.empty, .slice none 0 0] R4.out (Try.sizeC _ _ _) rfl (by simp [Value.oneCell']) ?_
 have R9 := Keep.mk (R4.out.setRow #[.int .i64 0, .string ByteArray.empty, .slice none 0 0])
 have B9 : Keep (Below w.heap.size w (w4.setRow r #[.int .i64 0, .string ByteArray.empty, .slice none 0 0])) := ⟨below_setRow B4.out gr.out _⟩
 generalize w4.setRow r #[.int .i64 0, .string ByteArray.empty, .slice none 0 0] = w9 at *
 simp only [Act.put]
 refine VbF ?_
 refine VlS (.int .i64 190) ?_
 refine VlS (.slice none 0 0) ?_
 refine WL.nil (hK8 _ _ ?_)
 refine wp_ret ?_
 try simp only [Exit.inBlock, Exit.then]
 refine bodyPost_ret (v := .tuple #[.agg #[.int .i64 0, .string ByteArray.empty, .slice none 0 0], .bool false, .int .i64 190, .slice none 0 0]) (results_cell_row4 Try.results39 _ _ r 40 _ (0, 0) _ _ _ _ rfl rfl rfl rfl R9.out Try.underlying40 rfl (Try.sizeC _ _ _)) rfl ⟨⟨0, ByteArray.empty, .slice none 0 0, []⟩, .slice none 0 0, ?_, .inl ⟨rfl, rfl⟩, B9.out, fun _ => rfl, fun y h => (by rw [hI.out] at h; cases h), fun h => by rw [hE.out] at h; cases h⟩
 rw [hE.out, hI.out] <;> rfl
set_option maxRecDepth 8000 in
set_option maxHeartbeats 1000000 in
theorem wk_many (la : Option Addr) (m cap : Nat) (n kind : Int) (key : ByteArray) (ls : List LV) (root : Hs) (w : World) (hml : Keep (ls.length = m)) (hkm : kmay kind = true) (hc : ¬ n < 0) (hc2 : 2 < m) : Calls Try.prog 39 #[.agg (bytesA 32 root.f), .int .i64 kind, .string key, .agg (wtA n (.slice la m cap))] w (WkP root n kind key ls w) := by
 have hfb : formB n ls = false := by
  unfold formB
  by_cases e : n = 0
  ·rw [if_pos e]; simp; intro e2; rw [e2] at hml; have := hml.out; simp at this; omega
  ·rw [if_neg e, if_pos (.inr (.inr (by rw [hml.out]; exact hc2)))]
 have hEI := chkE_of (root := root) (key := key) hkm (show takB root n kind key ls = false from by unfold takB; rw [hfb]; rfl)
 have hE := Keep.mk hEI.1
 have hI := Keep.mk hEI.2
 clear hEI hfb
 have hm2 : (m : Int) > 2 := by omega
 have hm2' : 2 < (m : Int) := by omega
 go_enter Try.func39, Try.ntmps39
 refine wp_seq_k fun K1 hK1 => rgn ?_
 refine WL.box (by kernel_rfl) 25 (.tmp 0) rfl (bytesA 32 root.f) rfl ?_
 have Q1 := Keep.mk (Blk.new w 25 (bytesA 32 root.f))
 have b_ := below_new w (.cells (bytesA 32 root.f) 25)
 change WL _ _ _ _ _ (w.alloc (.cells (bytesA 32 root.f) 25))
 generalize w.alloc (.cells (bytesA 32 root.f) 25) = w1 at *
 obtain ⟨q, hq0⟩ : ∃ z, Keep (z = w.heap.size) := ⟨_, ⟨rfl⟩⟩
 rw [← hq0.out] at Q1 ⊢
 have B1 : Keep (Below w.heap.size w w1) := ⟨b_⟩
 have gq : Keep (w.heap.size ≤ q) := ⟨by rw [hq0.out]; exact Nat.le_refl _⟩
 clear b_
 simp only [Act.put, pqA, pqB, pqC]
 refine WL.box (by kernel_rfl) 31 (.tmp 3) rfl (wtA n (.slice la m cap)) rfl ?_
 have D2 := Keep.mk (Blk.new w1 31 (wtA n (.slice la m cap)))
 have b_ := below_new w1 (.cells (wtA n (.slice la m cap)) 31)
 change WL _ _ _ _ _ (w1.alloc (.cells (wtA n (.slice la m cap)) 31))
 generalize w1.alloc (.cells (wtA n (.slice la m cap)) 31) = w2 at *
 obtain ⟨d, hd0⟩ : ∃ z, Keep (z = w1.heap.size) := ⟨_, ⟨rfl⟩⟩
 rw [← hd0.out] at D2 ⊢
 have Q2 := Keep.mk (Q1.out.below b_ Q1.out.lt)
 have B2 : Keep (Below w.heap.size w w2) := ⟨B1.out.trans (b_.mono B1.out.size)⟩
 have gd : Keep (w.heap.size ≤ d) := ⟨by rw [hd0.out]; exact B1.out.size⟩
 clear b_
 simp only [Act.put, pqA, pqB, pqC]
 refine WL.new (by kernel_rfl) 40 rfl _ Try.newC ?_
 have R3 := Keep.mk (Blk.new w2 40 #[.int .i64 0, .string ByteArray.empty, .slice none 0 0])
 have b_ := below_new w2 (.cells #[.int .i64 0, .string ByteArray.empty, .slice none 0 0] 40)
 change WL _ _ _ _ _ (w2.alloc (.cells #[.int .i64 0, .string ByteArray.empty, .slice none 0 0] 40))
 generalize w2.alloc (.cells #[.int .i64 0, .string ByteArray.empty, .slice none 0 0] 40) = w3 at *
 obtain ⟨r, hr0⟩ : ∃ z, Keep (z = w2.heap.size) := ⟨_, ⟨rfl⟩⟩
 rw [← hr0.out] at R3 ⊢
 have Q3 := Keep.mk (Q2.out.below b_ Q2.out.lt)
 have D3 := Keep.mk (D2.out.below b_ D2.out.lt)
 have B3 : Keep (Below w.heap.size w w3) := ⟨B2.out.trans (b_.mono B2.out.size)⟩
 have gr : Keep (w.heap.size ≤ r) := ⟨by rw [hr0.out]; exact B2.out.size⟩
 clear b_
 simp only [Act.put, pqA, pqB, pqC]
 refine VbF ?_
 refine VlS (.int .i64 0) ?_
 refine VlS (.slice none 0 0) ?_
 refine WL.nil (hK1 _ _ ?_)
 refine wp_seq_k fun K2 hK2 => rgn ?_
 refine WL.bld (by kernel_rfl) 61 #[] rfl [] (by simp) _ bld_bk ?_
 simp only [Act.put, pqA, pqB, pqC]
 refine WL.box (by kernel_rfl) 61 (.tmp 17) rfl #[.slice none 0 0] rfl ?_
 have K4 := Keep.mk (BkH.new w3)
 have b_ := below_new w3 (.cells #[.slice none 0 0] 61)
 generalize w3.alloc (.cells #[.slice none 0 0] 61) = w4 at *
 obtain ⟨x, hx⟩ : ∃ z, Keep (z = w3.heap.size) := ⟨_, ⟨rfl⟩⟩
 have BK4 : Keep (BkH w.heap.size w4 x []) := ⟨by
  have h := K4.out
  rw [hx.out]
  exact ⟨Nat.le_trans B3.out.size h.ge, by
   obtain ⟨vr, cs, h1, h2, h3, h4⟩ := h.ex
   have hn : cs.length = 0 := by rw [h3]; rfl
   exact ⟨vr, cs, h1, ⟨h2.1, by
    rcases h2.2 with h5 | ⟨g', c', cur, h5, h6, h7⟩
    ·exact .inl h5
    ·exact .inr ⟨g', c', cur, h5, Nat.le_trans B3.out.size h6, h7⟩⟩, h3, h4⟩⟩⟩
 rw [← hx.out]
 have Q4 := Keep.mk (Q3.out.below b_ Q3.out.lt)
 have D4 := Keep.mk (D3.out.below b_ D3.out.lt)
 have R4 := Keep.mk (R3.out.below b_ R3.out.lt)
 have B4 : Keep (Below w.heap.size w w4) := ⟨B3.out.trans (b_.mono B3.out.size)⟩
 clear b_ K4 Q3 D3 R3 hx
 have w0_ : w4.cell? ⟨d, 0, none⟩ = some (.int .i64 n) := D4.out.c 0 rfl
 have w1_ : w4.cell? ⟨d, 1, none⟩ = some (.slice la m cap) := D4.out.c 1 rfl
 simp only [Act.put, pqA, pqB, pqC]
 refine VlS (.pointer (some ⟨x, 0, none⟩)) ?_
 refine WL.nil (hK2 _ _ ?_)
 refine wp_seq_k fun K3 hK3 => rgn ?_
 refine VlS (.int .i64 kind) ?_
 refine WL.callF (by kernel_rfl) 31 _ _ rfl Try.in31 #[.int .i64 kind] (by simp [Act.eval]) ?_
 refine (kmay_any kind _).mono ?_
 rintro e w1_z ⟨rfl, hw_⟩
 refine ⟨_, rfl, ?_⟩
 have hw_ := hw_.symm
 subst hw_
 rw [hkm]
 simp only [Act.put, pqA, pqB, pqC]
 refine VbT ?_
 refine WL.nil (hK3 _ _ ?_)
 refine wp_seq_k fun K4 hK4 => ?_
 refine wp_seq_k fun K5 hK5 => rgn ?_
 refine VbT ?_
 refine VbF ?_
 refine WL.nil (hK5 _ _ ?_)
 refine wp_cond_false rfl ?_
 refine wp_skip ?_
 refine hK4 _ _ ?_
 refine wp_seq_k fun K6 hK6 => ?_
 refine wp_seq_k fun K7 hK7 => rgn ?_
 refine VlS (.pointer (some ⟨d, 0, none⟩)) ?_
 refine VlS (.int .i64 n) ?_
 refine VbF ?_
 refine VbF ?_
 refine VlS (.pointer (some ⟨d, 1, none⟩)) ?_
 refine VlS (.slice la m cap) ?_
 refine VlS (.int .i64 (m : Int)) ?_
 refine VbT ?_
 refine VbT ?_
 refine VbT ?_
 refine SkS ?_
 refine SkS ?_
 refine SkS ?_
 refine SkS ?_
 refine SkS ?_
 refine SkS ?_
 refine SkS ?_
 refine SkS ?_
 refine VbT ?_
 refine WL.nil (hK7 _ _ ?_)
 refine wp_cond_true rfl ?_
 refine wp_seq_k fun K8 hK8 => rgn ?_
 refine WL.bld (by kernel_rfl) 40 #[] rfl [] (by simp) #[.int .i64 0, .string ByteArray.empty, .slice none 0 0] bldC ?_
 simp only [Act.put, pqA, pqB, pqC]
 refine WL.storeR (by kernel_rfl) 40 (.tmp 8) (.tmp 43) rfl r #[.int .i64 0, .string ByteArray.empty, .slice none 0 0] rfl rfl 40 #[.int .i64 0, .string ByteArray.empty, .slice none 0 0] R4.out (Try.sizeC _ _ _) rfl (by simp [Value.oneCell']) ?_
 have R9 := Keep.mk (R4.out.setRow #[.int .i64 0, .string ByteArray.empty, .slice none 0 0])
 have B9 : Keep (Below w.heap.size w (w4.setRow r #[.int .i64 0, .string ByteArray.empty, .slice none 0 0])) := ⟨below_setRow B4.out gr.out _⟩
 generalize w4.setRow r #[.int .i64 0, .string ByteArray.empty, .slice none 0 0] = w9 at *
 simp only [Act.put]
 refine VbF ?_
 refine VlS (.int .i64 190) ?_
 refine VlS (.slice none 0 0) ?_
 refine WL.nil (hK8 _ _ ?_)
 refine wp_ret ?_
 try simp only [Exit.inBlock, Exit.then]
 refine bodyPost_ret (v := .tuple #[.agg #[.int .i64 0, .string ByteArray.empty, .slice none 0 0], .bool false, .int .i64 190, .slice none 0 0]) (results_cell_row4 Try.results39 _ _ r 40 _ (0, 0) _ _ _ _ rfl rfl rfl rfl R9.out Try.underlying40 rfl (Try.sizeC _ _ _)) rfl ⟨⟨0, ByteArray.empty, .slice none 0 0, []⟩, .slice none 0 0, ?_, .inl ⟨rfl, rfl⟩, B9.out, fun _ => rfl, fun y h => (by rw [hI.out] at h; cases h), fun h => by rw [hE.out] at h; cases h⟩
 rw [hE.out, hI.out] <;> rfl
set_option maxRecDepth 8000 in
set_option maxHeartbeats 1000000 in
theorem wk_mis0 (la : Option Addr) (m cap : Nat) (kind : Int) (key : ByteArray) (ls : List LV) (root : Hs) (w : World) (hml : Keep (ls.length = m)) (hkm : kmay kind = true) (hc : ¬ m = 0) (hc2 : ¬ 2 < m) : Calls Try.prog 39 #[.agg (bytesA 32 root.f), .int .i64 kind, .string key, .agg (wtA 0 (.slice la m cap))] w (WkP root 0 kind key ls w) := by
 have hfb : formB 0 ls = false := by
  unfold formB
  rw [if_pos rfl]; simp; intro e; rw [e] at hml; have := hml.out; simp at this; omega
 have hEI := chkE_of (root := root) (key := key) hkm (show takB root 0 kind key ls = false from by unfold takB; rw [hfb]; rfl)
 have hE := Keep.mk hEI.1
 have hI := Keep.mk hEI.2
 clear hEI hfb
 have hm2 : ¬ (m : Int) > 2 := by omega
 have hm2' : ¬ 2 < (m : Int) := by omega
 have hm0 : ((m : Int) == 0) = false := by simp; omega
 go_enter Try.func39, Try.ntmps39
 refine wp_seq_k fun K1 hK1 => rgn ?_
 refine WL.box (by kernel_rfl) 25 (.tmp 0) rfl (bytesA 32 root.f) rfl ?_
 have Q1 := Keep.mk (Blk.new w 25 (bytesA 32 root.f))
 have b_ := below_new w (.cells (bytesA 32 root.f) 25)
 change WL _ _ _ _ _ (w.alloc (.cells (bytesA 32 root.f) 25))
 generalize w.alloc (.cells (bytesA 32 root.f) 25) = w1 at *
 obtain ⟨q, hq0⟩ : ∃ z, Keep (z = w.heap.size) := ⟨_, ⟨rfl⟩⟩
 rw [← hq0.out] at Q1 ⊢
 have B1 : Keep (Below w.heap.size w w1) := ⟨b_⟩
 have gq : Keep (w.heap.size ≤ q) := ⟨by rw [hq0.out]; exact Nat.le_refl _⟩
 clear b_
 simp only [Act.put, pqA, pqB, pqC]
 refine WL.box (by kernel_rfl) 31 (.tmp 3) rfl (wtA 0 (.slice la m cap)) rfl ?_
 have D2 := Keep.mk (Blk.new w1 31 (wtA 0 (.slice la m cap)))
 have b_ := below_new w1 (.cells (wtA 0 (.slice la m cap)) 31)
 change WL _ _ _ _ _ (w1.alloc (.cells (wtA 0 (.slice la m cap)) 31))
 generalize w1.alloc (.cells (wtA 0 (.slice la m cap)) 31) = w2 at *
 obtain ⟨d, hd0⟩ : ∃ z, Keep (z = w1.heap.size) := ⟨_, ⟨rfl⟩⟩
 rw [← hd0.out] at D2 ⊢
 have Q2 := Keep.mk (Q1.out.below b_ Q1.out.lt)
 have B2 : Keep (Below w.heap.size w w2) := ⟨B1.out.trans (b_.mono B1.out.size)⟩
 have gd : Keep (w.heap.size ≤ d) := ⟨by rw [hd0.out]; exact B1.out.size⟩
 clear b_
 simp only [Act.put, pqA, pqB, pqC]
 refine WL.new (by kernel_rfl) 40 rfl _ Try.newC ?_
 have R3 := Keep.mk (Blk.new w2 40 #[.int .i64 0, .string ByteArray.empty, .slice none 0 0])
 have b_ := below_new w2 (.cells #[.int .i64 0, .string ByteArray.empty, .slice none 0 0] 40)
 change WL _ _ _ _ _ (w2.alloc (.cells #[.int .i64 0, .string ByteArray.empty, .slice none 0 0] 40))
 generalize w2.alloc (.cells #[.int .i64 0, .string ByteArray.empty, .slice none 0 0] 40) = w3 at *
 obtain ⟨r, hr0⟩ : ∃ z, Keep (z = w2.heap.size) := ⟨_, ⟨rfl⟩⟩
 rw [← hr0.out] at R3 ⊢
 have Q3 := Keep.mk (Q2.out.below b_ Q2.out.lt)
 have D3 := Keep.mk (D2.out.below b_ D2.out.lt)
 have B3 : Keep (Below w.heap.size w w3) := ⟨B2.out.trans (b_.mono B2.out.size)⟩
 have gr : Keep (w.heap.size ≤ r) := ⟨by rw [hr0.out]; exact B2.out.size⟩
 clear b_
 simp only [Act.put, pqA, pqB, pqC]
 refine VbF ?_
 refine VlS (.int .i64 0) ?_
 refine VlS (.slice none 0 0) ?_
 refine WL.nil (hK1 _ _ ?_)
 refine wp_seq_k fun K2 hK2 => rgn ?_
 refine WL.bld (by kernel_rfl) 61 #[] rfl [] (by simp) _ bld_bk ?_
 simp only [Act.put, pqA, pqB, pqC]
 refine WL.box (by kernel_rfl) 61 (.tmp 17) rfl #[.slice none 0 0] rfl ?_
 have K4 := Keep.mk (BkH.new w3)
 have b_ := below_new w3 (.cells #[.slice none 0 0] 61)
 generalize w3.alloc (.cells #[.slice none 0 0] 61) = w4 at *
 obtain ⟨x, hx⟩ : ∃ z, Keep (z = w3.heap.size) := ⟨_, ⟨rfl⟩⟩
 have BK4 : Keep (BkH w.heap.size w4 x []) := ⟨by
  have h := K4.out
  rw [hx.out]
  exact ⟨Nat.le_trans B3.out.size h.ge, by
   obtain ⟨vr, cs, h1, h2, h3, h4⟩ := h.ex
   have hn : cs.length = 0 := by rw [h3]; rfl
   exact ⟨vr, cs, h1, ⟨h2.1, by
    rcases h2.2 with h5 | ⟨g', c', cur, h5, h6, h7⟩
    ·exact .inl h5
    ·exact .inr ⟨g', c', cur, h5, Nat.le_trans B3.out.size h6, h7⟩⟩, h3, h4⟩⟩⟩
 rw [← hx.out]
 have Q4 := Keep.mk (Q3.out.below b_ Q3.out.lt)
 have D4 := Keep.mk (D3.out.below b_ D3.out.lt)
 have R4 := Keep.mk (R3.out.below b_ R3.out.lt)
 have B4 : Keep (Below w.heap.size w w4) := ⟨B3.out.trans (b_.mono B3.out.size)⟩
 clear b_ K4 Q3 D3 R3 hx
 have w0_ : w4.cell? ⟨d, 0, none⟩ = some (.int .i64 0) := D4.out.c 0 rfl
 have w1_ : w4.cell? ⟨d, 1, none⟩ = some (.slice la m cap) := D4.out.c 1 rfl
 simp only [Act.put, pqA, pqB, pqC]
 refine VlS (.pointer (some ⟨x, 0, none⟩)) ?_
 refine WL.nil (hK2 _ _ ?_)
 refine wp_seq_k fun K3 hK3 => rgn ?_
 refine VlS (.int .i64 kind) ?_
 refine WL.callF (by kernel_rfl) 31 _ _ rfl Try.in31 #[.int .i64 kind] (by simp [Act.eval]) ?_
 refine (kmay_any kind _).mono ?_
 rintro e w1_z ⟨rfl, hw_⟩
 refine ⟨_, rfl, ?_⟩
 have hw_ := hw_.symm
 subst hw_
 rw [hkm]
 simp only [Act.put, pqA, pqB, pqC]
 refine VbT ?_
 refine WL.nil (hK3 _ _ ?_)
 refine wp_seq_k fun K4 hK4 => ?_
 refine wp_seq_k fun K5 hK5 => rgn ?_
 refine VbT ?_
 refine VbF ?_
 refine WL.nil (hK5 _ _ ?_)
 refine wp_cond_false rfl ?_
 refine wp_skip ?_
 refine hK4 _ _ ?_
 refine wp_seq_k fun K6 hK6 => ?_
 refine wp_seq_k fun K7 hK7 => rgn ?_
 refine VlS (.pointer (some ⟨d, 0, none⟩)) ?_
 refine VlS (.int .i64 0) ?_
 refine VbF ?_
 refine VbF ?_
 refine VlS (.pointer (some ⟨d, 1, none⟩)) ?_
 refine VlS (.slice la m cap) ?_
 refine VlS (.int .i64 (m : Int)) ?_
 refine VbF ?_
 refine VbF ?_
 refine VbF ?_
 refine VlS (.pointer (some ⟨d, 0, none⟩)) ?_
 refine VlS (.int .i64 0) ?_
 refine VbT ?_
 refine VlS (.pointer (some ⟨d, 1, none⟩)) ?_
 refine VlS (.slice la m cap) ?_
 refine VlS (.int .i64 (m : Int)) ?_
 refine VbF ?_
 refine VbT ?_
 refine VbT ?_
 refine WL.nil (hK7 _ _ ?_)
 refine wp_cond_true rfl ?_
 refine wp_seq_k fun K8 hK8 => rgn ?_
 refine WL.bld (by kernel_rfl) 40 #[] rfl [] (by simp) #[.int .i64 0, .string ByteArray.empty, .slice none 0 0] bldC ?_
 simp only [Act.put, pqA, pqB, pqC]
 refine WL.storeR (by kernel_rfl) 40 (.tmp 8) (.tmp 43) rfl r #[.int .i64 0, .string ByteArray.empty, .slice none 0 0] rfl rfl 40 #[.int .i64 0, .string ByteArray.empty, .slice none 0 0] R4.out (Try.sizeC _ _ _) rfl (by simp [Value.oneCell']) ?_
 have R9 := Keep.mk (R4.out.setRow #[.int .i64 0, .string ByteArray.empty, .slice none 0 0])
 have B9 : Keep (Below w.heap.size w (w4.setRow r #[.int .i64 0, .string ByteArray.empty, .slice none 0 0])) := ⟨below_setRow B4.out gr.out _⟩
 generalize w4.setRow r #[.int .i64 0, .string ByteArray.empty, .slice none 0 0] = w9 at *
 simp only [Act.put]
 refine VbF ?_
 refine VlS (.int .i64 190) ?_
 refine VlS (.slice none 0 0) ?_
 refine WL.nil (hK8 _ _ ?_)
 refine wp_ret ?_
 try simp only [Exit.inBlock, Exit.then]
 refine bodyPost_ret (v := .tuple #[.agg #[.int .i64 0, .string ByteArray.empty, .slice none 0 0], .bool false, .int .i64 190, .slice none 0 0]) (results_cell_row4 Try.results39 _ _ r 40 _ (0, 0) _ _ _ _ rfl rfl rfl rfl R9.out Try.underlying40 rfl (Try.sizeC _ _ _)) rfl ⟨⟨0, ByteArray.empty, .slice none 0 0, []⟩, .slice none 0 0, ?_, .inl ⟨rfl, rfl⟩, B9.out, fun _ => rfl, fun y h => (by rw [hI.out] at h; cases h), fun h => by rw [hE.out] at h; cases h⟩
 rw [hE.out, hI.out] <;> rfl
set_option maxRecDepth 8000 in
set_option maxHeartbeats 1000000 in
theorem wk_mis1 (la : Option Addr) (cap : Nat) (n kind : Int) (key : ByteArray) (root : Hs) (w : World) (hkm : kmay kind = true) (hc : ¬ n = 0) (hc2 : ¬ n < 0) : Calls Try.prog 39 #[.agg (bytesA 32 root.f), .int .i64 kind, .string key, .agg (wtA n (.slice la 0 cap))] w (WkP root n kind key [] w) := by
 have hfb : formB n [] = false := by
  unfold formB
  rw [if_neg hc, if_pos (.inr (.inl (by simp)))]
 have hEI := chkE_of (root := root) (key := key) hkm (show takB root n kind key [] = false from by unfold takB; rw [hfb]; rfl)
 have hE := Keep.mk hEI.1
 have hI := Keep.mk hEI.2
 clear hEI hfb
 have hn0 : (n == 0) = false := by simpa using hc
 go_enter Try.func39, Try.ntmps39
 refine wp_seq_k fun K1 hK1 => rgn ?_
 refine WL.box (by kernel_rfl) 25 (.tmp 0) rfl (bytesA 32 root.f) rfl ?_
 have Q1 := Keep.mk (Blk.new w 25 (bytesA 32 root.f))
 have b_ := below_new w (.cells (bytesA 32 root.f) 25)
 change WL _ _ _ _ _ (w.alloc (.cells (bytesA 32 root.f) 25))
 generalize w.alloc (.cells (bytesA 32 root.f) 25) = w1 at *
 obtain ⟨q, hq0⟩ : ∃ z, Keep (z = w.heap.size) := ⟨_, ⟨rfl⟩⟩
 rw [← hq0.out] at Q1 ⊢
 have B1 : Keep (Below w.heap.size w w1) := ⟨b_⟩
 have gq : Keep (w.heap.size ≤ q) := ⟨by rw [hq0.out]; exact Nat.le_refl _⟩
 clear b_
 simp only [Act.put, pqA, pqB, pqC]
 refine WL.box (by kernel_rfl) 31 (.tmp 3) rfl (wtA n (.slice la 0 cap)) rfl ?_
 have D2 := Keep.mk (Blk.new w1 31 (wtA n (.slice la 0 cap)))
 have b_ := below_new w1 (.cells (wtA n (.slice la 0 cap)) 31)
 change WL _ _ _ _ _ (w1.alloc (.cells (wtA n (.slice la 0 cap)) 31))
 generalize w1.alloc (.cells (wtA n (.slice la 0 cap)) 31) = w2 at *
 obtain ⟨d, hd0⟩ : ∃ z, Keep (z = w1.heap.size) := ⟨_, ⟨rfl⟩⟩
 rw [← hd0.out] at D2 ⊢
 have Q2 := Keep.mk (Q1.out.below b_ Q1.out.lt)
 have B2 : Keep (Below w.heap.size w w2) := ⟨B1.out.trans (b_.mono B1.out.size)⟩
 have gd : Keep (w.heap.size ≤ d) := ⟨by rw [hd0.out]; exact B1.out.size⟩
 clear b_
 simp only [Act.put, pqA, pqB, pqC]
 refine WL.new (by kernel_rfl) 40 rfl _ Try.newC ?_
 have R3 := Keep.mk (Blk.new w2 40 #[.int .i64 0, .string ByteArray.empty, .slice none 0 0])
 have b_ := below_new w2 (.cells #[.int .i64 0, .string ByteArray.empty, .slice none 0 0] 40)
 change WL _ _ _ _ _ (w2.alloc (.cells #[.int .i64 0, .string ByteArray.empty, .slice none 0 0] 40))
 generalize w2.alloc (.cells #[.int .i64 0, .string ByteArray.empty, .slice none 0 0] 40) = w3 at *
 obtain ⟨r, hr0⟩ : ∃ z, Keep (z = w2.heap.size) := ⟨_, ⟨rfl⟩⟩
 rw [← hr0.out] at R3 ⊢
 have Q3 := Keep.mk (Q2.out.below b_ Q2.out.lt)
 have D3 := Keep.mk (D2.out.below b_ D2.out.lt)
 have B3 : Keep (Below w.heap.size w w3) := ⟨B2.out.trans (b_.mono B2.out.size)⟩
 have gr : Keep (w.heap.size ≤ r) := ⟨by rw [hr0.out]; exact B2.out.size⟩
 clear b_
 simp only [Act.put, pqA, pqB, pqC]
 refine VbF ?_
 refine VlS (.int .i64 0) ?_
 refine VlS (.slice none 0 0) ?_
 refine WL.nil (hK1 _ _ ?_)
 refine wp_seq_k fun K2 hK2 => rgn ?_
 refine WL.bld (by kernel_rfl) 61 #[] rfl [] (by simp) _ bld_bk ?_
 simp only [Act.put, pqA, pqB, pqC]
 refine WL.box (by kernel_rfl) 61 (.tmp 17) rfl #[.slice none 0 0] rfl ?_
 have K4 := Keep.mk (BkH.new w3)
 have b_ := below_new w3 (.cells #[.slice none 0 0] 61)
 generalize w3.alloc (.cells #[.slice none 0 0] 61) = w4 at *
 obtain ⟨x, hx⟩ : ∃ z, Keep (z = w3.heap.size) := ⟨_, ⟨rfl⟩⟩
 have BK4 : Keep (BkH w.heap.size w4 x []) := ⟨by
  have h := K4.out
  rw [hx.out]
  exact ⟨Nat.le_trans B3.out.size h.ge, by
   obtain ⟨vr, cs, h1, h2, h3, h4⟩ := h.ex
   have hn : cs.length = 0 := by rw [h3]; rfl
   exact ⟨vr, cs, h1, ⟨h2.1, by
    rcases h2.2 with h5 | ⟨g', c', cur, h5, h6, h7⟩
    ·exact .inl h5
    ·exact .inr ⟨g', c', cur, h5, Nat.le_trans B3.out.size h6, h7⟩⟩, h3, h4⟩⟩⟩
 rw [← hx.out]
 have Q4 := Keep.mk (Q3.out.below b_ Q3.out.lt)
 have D4 := Keep.mk (D3.out.below b_ D3.out.lt)
 have R4 := Keep.mk (R3.out.below b_ R3.out.lt)
 have B4 : Keep (Below w.heap.size w w4) := ⟨B3.out.trans (b_.mono B3.out.size)⟩
 clear b_ K4 Q3 D3 R3 hx
 have w0_ : w4.cell? ⟨d, 0, none⟩ = some (.int .i64 n) := D4.out.c 0 rfl
 have w1_ : w4.cell? ⟨d, 1, none⟩ = some (.slice la 0 cap) := D4.out.c 1 rfl
 simp only [Act.put, pqA, pqB, pqC]
 refine VlS (.pointer (some ⟨x, 0, none⟩)) ?_
 refine WL.nil (hK2 _ _ ?_)
 refine wp_seq_k fun K3 hK3 => rgn ?_
 refine VlS (.int .i64 kind) ?_
 refine WL.callF (by kernel_rfl) 31 _ _ rfl Try.in31 #[.int .i64 kind] (by simp [Act.eval]) ?_
 refine (kmay_any kind _).mono ?_
 rintro e w1_z ⟨rfl, hw_⟩
 refine ⟨_, rfl, ?_⟩
 have hw_ := hw_.symm
 subst hw_
 rw [hkm]
 simp only [Act.put, pqA, pqB, pqC]
 refine VbT ?_
 refine WL.nil (hK3 _ _ ?_)
 refine wp_seq_k fun K4 hK4 => ?_
 refine wp_seq_k fun K5 hK5 => rgn ?_
 refine VbT ?_
 refine VbF ?_
 refine WL.nil (hK5 _ _ ?_)
 refine wp_cond_false rfl ?_
 refine wp_skip ?_
 refine hK4 _ _ ?_
 refine wp_seq_k fun K6 hK6 => ?_
 refine wp_seq_k fun K7 hK7 => rgn ?_
 refine VlS (.pointer (some ⟨d, 0, none⟩)) ?_
 refine VlS (.int .i64 n) ?_
 refine VbF ?_
 refine VbF ?_
 refine VlS (.pointer (some ⟨d, 1, none⟩)) ?_
 refine VlS (.slice la 0 cap) ?_
 refine VlS (.int .i64 0) ?_
 refine VbF ?_
 refine VbF ?_
 refine VbF ?_
 refine VlS (.pointer (some ⟨d, 0, none⟩)) ?_
 refine VlS (.int .i64 n) ?_
 refine VbF ?_
 refine VlS (.pointer (some ⟨d, 1, none⟩)) ?_
 refine VlS (.slice la 0 cap) ?_
 refine VlS (.int .i64 0) ?_
 refine VbT ?_
 refine VbT ?_
 refine VbT ?_
 refine WL.nil (hK7 _ _ ?_)
 refine wp_cond_true rfl ?_
 refine wp_seq_k fun K8 hK8 => rgn ?_
 refine WL.bld (by kernel_rfl) 40 #[] rfl [] (by simp) #[.int .i64 0, .string ByteArray.empty, .slice none 0 0] bldC ?_
 simp only [Act.put, pqA, pqB, pqC]
 refine WL.storeR (by kernel_rfl) 40 (.tmp 8) (.tmp 43) rfl r #[.int .i64 0, .string ByteArray.empty, .slice none 0 0] rfl rfl 40 #[.int .i64 0, .string ByteArray.empty, .slice none 0 0] R4.out (Try.sizeC _ _ _) rfl (by simp [Value.oneCell']) ?_
 have R9 := Keep.mk (R4.out.setRow #[.int .i64 0, .string ByteArray.empty, .slice none 0 0])
 have B9 : Keep (Below w.heap.size w (w4.setRow r #[.int .i64 0, .string ByteArray.empty, .slice none 0 0])) := ⟨below_setRow B4.out gr.out _⟩
 generalize w4.setRow r #[.int .i64 0, .string ByteArray.empty, .slice none 0 0] = w9 at *
 simp only [Act.put]
 refine VbF ?_
 refine VlS (.int .i64 190) ?_
 refine VlS (.slice none 0 0) ?_
 refine WL.nil (hK8 _ _ ?_)
 refine wp_ret ?_
 try simp only [Exit.inBlock, Exit.then]
 refine bodyPost_ret (v := .tuple #[.agg #[.int .i64 0, .string ByteArray.empty, .slice none 0 0], .bool false, .int .i64 190, .slice none 0 0]) (results_cell_row4 Try.results39 _ _ r 40 _ (0, 0) _ _ _ _ rfl rfl rfl rfl R9.out Try.underlying40 rfl (Try.sizeC _ _ _)) rfl ⟨⟨0, ByteArray.empty, .slice none 0 0, []⟩, .slice none 0 0, ?_, .inl ⟨rfl, rfl⟩, B9.out, fun _ => rfl, fun y h => (by rw [hI.out] at h; cases h), fun h => by rw [hE.out] at h; cases h⟩
 rw [hE.out, hI.out] <;> rfl
def SmP (ls : List LV) : Prop := ∀ x ∈ ls, x.c.s.size + x.c.l.length ≤ 140737488350000 ∧ x.ps.length ≤ 1000000000000
theorem BkH.typX {B : Nat} {w : World} {x : Nat} {rows : List (List Int)} (h : BkH B w x rows) : Typ w x 61 := by
 obtain ⟨vr, cs, h1, _⟩ := h.ex
 exact h1.typ
set_option maxRecDepth 8000 in
set_option maxHeartbeats 1000000 in
theorem wk_zero_t (la : Option Addr) (cap : Nat) (kind : Int) (key : ByteArray) (root x0 : Hs) (h0 : Array Value) (w : World) (hkm : kmay kind = true) (h0e : Keep (h0 = bytesA 32 x0.f)) (hx0 : Keep (x0 = shaH (2 :: (le8 0 ++ [])))) (HE : Keep (decide (x0 = root) = true)) : Calls Try.prog 39 #[.agg (bytesA 32 root.f), .int .i64 kind, .string key, .agg (wtA 0 (.slice la 0 cap))] w (WkP root 0 kind key [] w) := by
 have htk : takB root 0 kind key [] = true := by
  unfold takB formB ansB rtB
  rw [if_pos rfl, if_pos rfl, ← hx0.out, HE.out]
  simp
 have hEI := chkE_ok (root := root) (key := key) hkm htk
 have hE := Keep.mk hEI.1
 have hI : Keep (chkI root 0 kind key [] = false) := ⟨by rw [hEI.2]; rfl⟩
 clear hEI htk
 go_enter Try.func39, Try.ntmps39
 refine wp_seq_k fun K1 hK1 => rgn ?_
 refine WL.box (by kernel_rfl) 25 (.tmp 0) rfl (bytesA 32 root.f) rfl ?_
 have Q1 := Keep.mk (Blk.new w 25 (bytesA 32 root.f))
 have b_ := below_new w (.cells (bytesA 32 root.f) 25)
 change WL _ _ _ _ _ (w.alloc (.cells (bytesA 32 root.f) 25))
 generalize w.alloc (.cells (bytesA 32 root.f) 25) = w1 at *
 obtain ⟨q, hq0⟩ : ∃ z, Keep (z = w.heap.size) := ⟨_, ⟨rfl⟩⟩
 rw [← hq0.out] at Q1 ⊢
 have B1 : Keep (Below w.heap.size w w1) := ⟨b_⟩
 have gq : Keep (w.heap.size ≤ q) := ⟨by rw [hq0.out]; exact Nat.le_refl _⟩
 clear b_
 simp only [Act.put, pqA, pqB, pqC]
 refine WL.box (by kernel_rfl) 31 (.tmp 3) rfl (wtA 0 (.slice la 0 cap)) rfl ?_
 have D2 := Keep.mk (Blk.new w1 31 (wtA 0 (.slice la 0 cap)))
 have b_ := below_new w1 (.cells (wtA 0 (.slice la 0 cap)) 31)
 change WL _ _ _ _ _ (w1.alloc (.cells (wtA 0 (.slice la 0 cap)) 31))
 generalize w1.alloc (.cells (wtA 0 (.slice la 0 cap)) 31) = w2 at *
 obtain ⟨d, hd0⟩ : ∃ z, Keep (z = w1.heap.size) := ⟨_, ⟨rfl⟩⟩
 rw [← hd0.out] at D2 ⊢
 have Q2 := Keep.mk (Q1.out.below b_ Q1.out.lt)
 have B2 : Keep (Below w.heap.size w w2) := ⟨B1.out.trans (b_.mono B1.out.size)⟩
 have gd : Keep (w.heap.size ≤ d) := ⟨by rw [hd0.out]; exact B1.out.size⟩
 clear b_
 simp only [Act.put, pqA, pqB, pqC]
 refine WL.new (by kernel_rfl) 40 rfl _ Try.newC ?_
 have R3 := Keep.mk (Blk.new w2 40 #[.int .i64 0, .string ByteArray.empty, .slice none 0 0])
 have b_ := below_new w2 (.cells #[.int .i64 0, .string ByteArray.empty, .slice none 0 0] 40)
 change WL _ _ _ _ _ (w2.alloc (.cells #[.int .i64 0, .string ByteArray.empty, .slice none 0 0] 40))
 generalize w2.alloc (.cells #[.int .i64 0, .string ByteArray.empty, .slice none 0 0] 40) = w3 at *
 obtain ⟨r, hr0⟩ : ∃ z, Keep (z = w2.heap.size) := ⟨_, ⟨rfl⟩⟩
 rw [← hr0.out] at R3 ⊢
 have Q3 := Keep.mk (Q2.out.below b_ Q2.out.lt)
 have D3 := Keep.mk (D2.out.below b_ D2.out.lt)
 have B3 : Keep (Below w.heap.size w w3) := ⟨B2.out.trans (b_.mono B2.out.size)⟩
 have gr : Keep (w.heap.size ≤ r) := ⟨by rw [hr0.out]; exact B2.out.size⟩
 clear b_
 simp only [Act.put, pqA, pqB, pqC]
 refine VbF ?_
 refine VlS (.int .i64 0) ?_
 refine VlS (.slice none 0 0) ?_
 refine WL.nil (hK1 _ _ ?_)
 refine wp_seq_k fun K2 hK2 => rgn ?_
 refine WL.bld (by kernel_rfl) 61 #[] rfl [] (by simp) _ bld_bk ?_
 simp only [Act.put, pqA, pqB, pqC]
 refine WL.box (by kernel_rfl) 61 (.tmp 17) rfl #[.slice none 0 0] rfl ?_
 have K4 := Keep.mk (BkH.new w3)
 have b_ := below_new w3 (.cells #[.slice none 0 0] 61)
 generalize w3.alloc (.cells #[.slice none 0 0] 61) = w4 at *
 obtain ⟨x, hx⟩ : ∃ z, Keep (z = w3.heap.size) := ⟨_, ⟨rfl⟩⟩
 have BK4 : Keep (BkH w.heap.size w4 x []) := ⟨by
  have h := K4.out
  rw [hx.out]
  exact ⟨Nat.le_trans B3.out.size h.ge, by
   obtain ⟨vr, cs, h1, h2, h3, h4⟩ := h.ex
   have hn : cs.length = 0 := by rw [h3]; rfl
   exact ⟨vr, cs, h1, ⟨h2.1, by
    rcases h2.2 with h5 | ⟨g', c', cur, h5, h6, h7⟩
    ·exact .inl h5
    ·exact .inr ⟨g', c', cur, h5, Nat.le_trans B3.out.size h6, h7⟩⟩, h3, h4⟩⟩⟩
 rw [← hx.out]
 have Q4 := Keep.mk (Q3.out.below b_ Q3.out.lt)
 have D4 := Keep.mk (D3.out.below b_ D3.out.lt)
 have R4 := Keep.mk (R3.out.below b_ R3.out.lt)
 have B4 : Keep (Below w.heap.size w w4) := ⟨B3.out.trans (b_.mono B3.out.size)⟩
 clear b_ K4 Q3 D3 R3 hx
 have w0_ : w4.cell? ⟨d, 0, none⟩ = some (.int .i64 0) := D4.out.c 0 rfl
 have w1_ : w4.cell? ⟨d, 1, none⟩ = some (.slice la 0 cap) := D4.out.c 1 rfl
 simp only [Act.put, pqA, pqB, pqC]
 refine VlS (.pointer (some ⟨x, 0, none⟩)) ?_
 refine WL.nil (hK2 _ _ ?_)
 refine wp_seq_k fun K3 hK3 => rgn ?_
 refine VlS (.int .i64 kind) ?_
 refine WL.callF (by kernel_rfl) 31 _ _ rfl Try.in31 #[.int .i64 kind] (by simp [Act.eval]) ?_
 refine (kmay_any kind _).mono ?_
 rintro e w1_z ⟨rfl, hw_⟩
 refine ⟨_, rfl, ?_⟩
 have hw_ := hw_.symm
 subst hw_
 rw [hkm]
 simp only [Act.put, pqA, pqB, pqC]
 refine VbT ?_
 refine WL.nil (hK3 _ _ ?_)
 refine wp_seq_k fun K4 hK4 => ?_
 refine wp_seq_k fun K5 hK5 => rgn ?_
 refine VbT ?_
 refine VbF ?_
 refine WL.nil (hK5 _ _ ?_)
 refine wp_cond_false rfl ?_
 refine wp_skip ?_
 refine hK4 _ _ ?_
 refine wp_seq_k fun K6 hK6 => ?_
 refine wp_seq_k fun K7 hK7 => rgn ?_
 refine VlS (.pointer (some ⟨d, 0, none⟩)) ?_
 refine VlS (.int .i64 0) ?_
 refine VbF ?_
 refine VbF ?_
 refine VlS (.pointer (some ⟨d, 1, none⟩)) ?_
 refine VlS (.slice la 0 cap) ?_
 refine VlS (.int .i64 0) ?_
 refine VbF ?_
 refine VbF ?_
 refine VbF ?_
 refine VlS (.pointer (some ⟨d, 0, none⟩)) ?_
 refine VlS (.int .i64 0) ?_
 refine VbT ?_
 refine VlS (.pointer (some ⟨d, 1, none⟩)) ?_
 refine VlS (.slice la 0 cap) ?_
 refine VlS (.int .i64 0) ?_
 refine VbT ?_
 refine VbF ?_
 refine VbF ?_
 refine WL.nil (hK7 _ _ ?_)
 refine wp_cond_false rfl ?_
 refine wp_skip ?_
 refine hK6 _ _ ?_
 refine wp_seq_k fun K8 hK8 => ?_
 refine wp_seq_k fun K9 hK9 => rgn ?_
 refine VlS (.pointer (some ⟨d, 0, none⟩)) ?_
 refine VlS (.int .i64 0) ?_
 refine VbT ?_
 refine WL.nil (hK9 _ _ ?_)
 refine wp_cond_true rfl ?_
 refine wp_seq_k fun K10 hK10 => ?_
 refine wp_seq_k fun K11 hK11 => ?_
 obtain ⟨hr_, hre⟩ : ∃ z : Array Value, Keep (z = (bytesA 32 root.f)) := ⟨_, ⟨rfl⟩⟩
 obtain ⟨hz_, hze⟩ : ∃ z : Array Value, Keep (z = (bytesA 32 fun _ => 0)) := ⟨_, ⟨rfl⟩⟩
 have bq := (Below.refl w4.heap.size w4).drew
 have Qd : Keep (Blk w4.drew q 25 hr_) := ⟨by rw [hre.out]; exact Q4.out⟩
 have Rd4 : Keep (Blk w4.drew r 40 #[.int .i64 0, .string ByteArray.empty, .slice none 0 0]) := ⟨R4.out⟩
 have BKd4 := Keep.mk (BK4.out.below bq)
 have Bd4 : Keep (Below w.heap.size w w4.drew) := ⟨B4.out.drew⟩
 clear w0_ w1_ Q4 R4 BK4 B4 D4 bq
 have HTP : Keep (Calls Try.prog 52 #[.pointer (some ⟨x, 0, none⟩), .int .i64 ((0 : Nat) : Int), .agg hz_] w4.drew fun e w' => e = .returned (.agg h0) ∧ BkH w.heap.size w' x [2 :: (le8 0 ++ [])] ∧ Grown w4.drew w' (BkS w.heap.size w4.drew)) := ⟨by
  have h := top_any w.heap.size x 0 (fun _ => 0) [] w4.drew BKd4.out (by omega) (by simp) Bd4.out.size
  rw [hze.out, h0e.out, hx0.out, ← encH_arr, ← shaH_arr]
  exact h⟩
 refine wp_region_held_drew (S := fun wx => wx.rangeAt q 0 hr_.toList) (by kernel_rfl) (blk_range Qd.out) (fun hHeld => ?_)
 refine TkC (i := 0) (oi := ⟨some 47, Op.move (Operand.tmp 12), 58, _, _, none⟩) (v := .pointer (some ⟨x, 0, none⟩)) rfl hHeld ?_
 refine tkS (i := 3) (oi := ⟨some 50, Op.load 25 (Operand.tmp 4), 25, _, _, none⟩) (v := .agg hr_) rfl (yieldsIf_ld (by rfl) (Operand.tmp 4) 25 rfl q 0 rfl hr_ _ Try.underlying25 rfl (by rw [hre.out]; exact Try.size25B _) fun w hS => hS) hHeld ?_
 refine wpAnyH_ready (rs := [1]) (by kernel_rfl) (by simp) ?_
 refine AllReadyH.cons (o := ⟨some 48, Op.build 25 #[], 25, _, _, none⟩) rfl (fun K hK => ?_) AllReadyH.nil
 rw [if_pos (by rfl)]
 refine wp_bldG 25 #[] rfl hz_ (by rw [hze.out]; simpa using bld_hz) ?_
 refine hK _ _ (blk_range Qd.out) fun hH_ => ?_
 clear hK
 simp only [Act.put, pqA, pqB, pqC]
 refine wpAnyH_ready (rs := [2]) (by kernel_rfl) (by simp) ?_
 refine AllReadyH.cons (o := ⟨some 49, Op.call { callee := Callee.value (Operand.func 52), args := #[Operand.tmp 47, Operand.const (Value.int IntKind.i64 0), Operand.tmp 48], argTypes := #[58, 3, 25] }, 25, _, _, none⟩) rfl (fun K hK => ?_) AllReadyH.nil
 rw [if_pos (by rfl)]
 refine wp_callF 52 _ _ rfl Try.in52 #[.pointer (some ⟨x, 0, none⟩), .int .i64 ((0 : Nat) : Int), .agg hz_] (by simp [Act.eval]) (fun vz wz => vz = .agg h0 ∧ BkH w.heap.size wz x [2 :: (le8 0 ++ [])] ∧ Grown w4.drew wz (BkS w.heap.size w4.drew)) ?_ ?_
 ·refine (HTP.out).mono ?_
  rintro e wz ⟨rfl, k1, k2⟩
  exact ⟨_, rfl, rfl, k1, k2⟩
 rintro vz w5 ⟨rfl, k1, k2⟩
 have BK5 := Keep.mk k1
 have B5 : Keep (Below w.heap.size w w5) := ⟨Bd4.out.trans (k2.bkBelow Bd4.out.size)⟩
 have Q5 := Keep.mk (Qd.out.bk k2 (by decide) (by decide))
 have R5 := Keep.mk (Rd4.out.bk k2 (by decide) (by decide))
 clear k1 k2 Qd Rd4 BKd4 Bd4
 refine hK _ _ (blk_range Q5.out) fun hH_ => ?_
 clear hK
 simp only [Act.put, pqA, pqB, pqC]
 refine tkS (i := 4) (oi := ⟨some 51, Op.binOp BinOp.neq 25 (Operand.tmp 49) (Operand.tmp 50) 25, 4, _, _, none⟩) (v := .bool false) rfl (Or.inl ⟨by rfl, fun w hS => by have hq_ := eqB h0e.out hre.out HE.out w; clear hS; go_simp⟩) hH_ ?_
 refine wpAnyH_done (by kernel_rfl) ?_ _
 refine hK11 _ _ ?_
 refine wp_cond_false rfl ?_
 refine wp_skip ?_
 refine hK10 _ _ ?_
 refine wp_seq_k fun K12 hK12 => ?_
 have BKd := Keep.mk (BK5.out.below (Below.refl w5.heap.size w5).drew)
 obtain ⟨vr, us0, cvr, -, -⟩ := BKd.out.rsv (by simp)
 have Rd : Keep (Blk w5.drew r 40 #[.int .i64 0, .string ByteArray.empty, .slice none 0 0]) := ⟨R5.out⟩
 have Bd : Keep (Below w.heap.size w w5.drew) := ⟨B5.out.drew⟩
 have hxr : Keep (x ≠ r) := ⟨fun e => absurd (BKd.out.typX.one (show Typ w5.drew x 40 from e ▸ Rd.out.typ)) (by decide)⟩
 refine wp_region_held_drew (S := fun wx => wx.cell? ⟨x, 0, none⟩ = some vr) (by kernel_rfl) (cvr) (fun hHeld => ?_)
 refine TkG (i := 1) (oi := ⟨some 58, Op.move (Operand.tmp 12), 58, _, _, none⟩) (v := .pointer (some ⟨x, 0, none⟩)) rfl hHeld ?_
 refine TkG (i := 2) (oi := ⟨some 59, Op.nilCheck (Operand.tmp 58), 0, _, _, none⟩) (v := .pointer (some ⟨x, 0, none⟩)) rfl hHeld ?_
 refine TkG (i := 3) (oi := ⟨some 60, Op.fieldAddr 61 (Operand.tmp 59) 0, 0, _, _, none⟩) (v := .pointer (some ⟨x, 0, none⟩)) rfl hHeld ?_
 refine TkG (i := 4) (oi := ⟨some 61, Op.load 59 (Operand.tmp 60), 59, _, _, none⟩) (v := vr) rfl hHeld ?_
 refine wpAnyH_ready (rs := [0]) (by kernel_rfl) (by simp) ?_
 refine AllReadyH.cons (o := ⟨some 57, Op.build 40 #[], 40, _, _, none⟩) rfl (fun K hK => ?_) AllReadyH.nil
 rw [if_pos (by rfl)]
 refine wp_bldG 40 #[] rfl #[.int .i64 0, .string ByteArray.empty, .slice none 0 0] (by simpa using bldC) ?_
 refine hK _ _ cvr fun hH_ => ?_
 clear hK
 simp only [Act.put, pqA, pqB, pqC]
 refine wpAnyH_ready (rs := [5]) (by kernel_rfl) (by simp) ?_
 refine AllReadyH.cons (o := ⟨none, Op.store 40 (Operand.tmp 8) (Operand.tmp 57), 0, _, _, none⟩) rfl (fun K hK => ?_) AllReadyH.nil
 rw [if_pos (by rfl)]
 refine wp_store_row 40 (.tmp 8) (.tmp 57) rfl r #[.int .i64 0, .string ByteArray.empty, .slice none 0 0] rfl rfl 40 #[.int .i64 0, .string ByteArray.empty, .slice none 0 0] Rd.out (Try.sizeC _ _ _) rfl (by simp [Value.oneCell']) ?_
 have R9 := Keep.mk (Rd.out.setRow #[.int .i64 0, .string ByteArray.empty, .slice none 0 0])
 have g_ : Grown w5.drew (w5.drew.setRow r #[.int .i64 0, .string ByteArray.empty, .slice none 0 0]) (fun k => k = r) := Grown.setRow _ r #[.int .i64 0, .string ByteArray.empty, .slice none 0 0] fun _ => rfl
 have cvr9 := g_.cell cvr hxr.out
 have BK9 := Keep.mk (BKd.out.setRow Rd.out #[.int .i64 0, .string ByteArray.empty, .slice none 0 0] (by decide) (by decide) (by decide))
 have B9 : Keep (Below w.heap.size w (w5.drew.setRow r #[.int .i64 0, .string ByteArray.empty, .slice none 0 0])) := ⟨below_setRow Bd.out gr.out _⟩
 generalize w5.drew.setRow r #[.int .i64 0, .string ByteArray.empty, .slice none 0 0] = w9 at *
 clear g_
 have RS9 : Keep (∃ us, RsV w9 vr us _) := ⟨by
  obtain ⟨vr', us', c', h1, _⟩ := BK9.out.rsv (by simp)
  obtain rfl : vr' = vr := Option.some.inj (c'.symm.trans cvr9)
  exact ⟨us', h1⟩⟩
 refine hK _ _ cvr9 fun hH_ => ?_
 clear hK
 simp only [Act.put, pqA, pqB, pqC]
 refine TkG (i := 6) (oi := ⟨some 9, Op.assign (Operand.const (Value.bool false)), 4, _, _, none⟩) (v := .bool false) rfl hH_ ?_
 refine TkG (i := 7) (oi := ⟨some 10, Op.assign (Operand.const (Value.int IntKind.i64 0)), 26, _, _, none⟩) (v := .int .i64 0) rfl hH_ ?_
 refine TkG (i := 8) (oi := ⟨some 11, Op.assign (Operand.tmp 61), 59, _, _, none⟩) (v := vr) rfl hH_ ?_
 refine wpAnyH_done (by kernel_rfl) ?_ _
 refine hK12 _ _ ?_
 refine wp_ret ?_
 try simp only [Exit.inBlock, Exit.then]
 refine bodyPost_ret (v := .tuple #[.agg #[.int .i64 0, .string ByteArray.empty, .slice none 0 0], .bool false, .int .i64 0, vr]) (results_cell_row4 Try.results39 _ _ r 40 _ (0, 0) _ _ _ _ rfl rfl rfl rfl R9.out Try.underlying40 rfl (Try.sizeC _ _ _)) rfl ⟨⟨0, ByteArray.empty, .slice none 0 0, []⟩, vr, ?_, .inl ⟨rfl, rfl⟩, B9.out, fun _ => rfl, fun y h => (by rw [hI.out] at h; cases h), fun _ => RS9.out⟩
 rw [hE.out, hI.out] <;> rfl
set_option maxRecDepth 8000 in
set_option maxHeartbeats 1000000 in
theorem wk_zero_f (la : Option Addr) (cap : Nat) (kind : Int) (key : ByteArray) (root x0 : Hs) (h0 : Array Value) (w : World) (hkm : kmay kind = true) (h0e : Keep (h0 = bytesA 32 x0.f)) (hx0 : Keep (x0 = shaH (2 :: (le8 0 ++ [])))) (HE : Keep (decide (x0 = root) = false)) : Calls Try.prog 39 #[.agg (bytesA 32 root.f), .int .i64 kind, .string key, .agg (wtA 0 (.slice la 0 cap))] w (WkP root 0 kind key [] w) := by
 have htk : takB root 0 kind key [] = false := by
  unfold takB formB ansB rtB
  rw [if_pos rfl, if_pos rfl, ← hx0.out, HE.out]
  simp
 have hEI := chkE_of (root := root) (key := key) hkm htk
 have hE := Keep.mk hEI.1
 have hI : Keep (chkI root 0 kind key [] = false) := ⟨hEI.2⟩
 clear hEI htk
 go_enter Try.func39, Try.ntmps39
 refine wp_seq_k fun K1 hK1 => rgn ?_
 refine WL.box (by kernel_rfl) 25 (.tmp 0) rfl (bytesA 32 root.f) rfl ?_
 have Q1 := Keep.mk (Blk.new w 25 (bytesA 32 root.f))
 have b_ := below_new w (.cells (bytesA 32 root.f) 25)
 change WL _ _ _ _ _ (w.alloc (.cells (bytesA 32 root.f) 25))
 generalize w.alloc (.cells (bytesA 32 root.f) 25) = w1 at *
 obtain ⟨q, hq0⟩ : ∃ z, Keep (z = w.heap.size) := ⟨_, ⟨rfl⟩⟩
 rw [← hq0.out] at Q1 ⊢
 have B1 : Keep (Below w.heap.size w w1) := ⟨b_⟩
 have gq : Keep (w.heap.size ≤ q) := ⟨by rw [hq0.out]; exact Nat.le_refl _⟩
 clear b_
 simp only [Act.put, pqA, pqB, pqC]
 refine WL.box (by kernel_rfl) 31 (.tmp 3) rfl (wtA 0 (.slice la 0 cap)) rfl ?_
 have D2 := Keep.mk (Blk.new w1 31 (wtA 0 (.slice la 0 cap)))
 have b_ := below_new w1 (.cells (wtA 0 (.slice la 0 cap)) 31)
 change WL _ _ _ _ _ (w1.alloc (.cells (wtA 0 (.slice la 0 cap)) 31))
 generalize w1.alloc (.cells (wtA 0 (.slice la 0 cap)) 31) = w2 at *
 obtain ⟨d, hd0⟩ : ∃ z, Keep (z = w1.heap.size) := ⟨_, ⟨rfl⟩⟩
 rw [← hd0.out] at D2 ⊢
 have Q2 := Keep.mk (Q1.out.below b_ Q1.out.lt)
 have B2 : Keep (Below w.heap.size w w2) := ⟨B1.out.trans (b_.mono B1.out.size)⟩
 have gd : Keep (w.heap.size ≤ d) := ⟨by rw [hd0.out]; exact B1.out.size⟩
 clear b_
 simp only [Act.put, pqA, pqB, pqC]
 refine WL.new (by kernel_rfl) 40 rfl _ Try.newC ?_
 have R3 := Keep.mk (Blk.new w2 40 #[.int .i64 0, .string ByteArray.empty, .slice none 0 0])
 have b_ := below_new w2 (.cells #[.int .i64 0, .string ByteArray.empty, .slice none 0 0] 40)
 change WL _ _ _ _ _ (w2.alloc (.cells #[.int .i64 0, .string ByteArray.empty, .slice none 0 0] 40))
 generalize w2.alloc (.cells #[.int .i64 0, .string ByteArray.empty, .slice none 0 0] 40) = w3 at *
 obtain ⟨r, hr0⟩ : ∃ z, Keep (z = w2.heap.size) := ⟨_, ⟨rfl⟩⟩
 rw [← hr0.out] at R3 ⊢
 have Q3 := Keep.mk (Q2.out.below b_ Q2.out.lt)
 have D3 := Keep.mk (D2.out.below b_ D2.out.lt)
 have B3 : Keep (Below w.heap.size w w3) := ⟨B2.out.trans (b_.mono B2.out.size)⟩
 have gr : Keep (w.heap.size ≤ r) := ⟨by rw [hr0.out]; exact B2.out.size⟩
 clear b_
 simp only [Act.put, pqA, pqB, pqC]
 refine VbF ?_
 refine VlS (.int .i64 0) ?_
 refine VlS (.slice none 0 0) ?_
 refine WL.nil (hK1 _ _ ?_)
 refine wp_seq_k fun K2 hK2 => rgn ?_
 refine WL.bld (by kernel_rfl) 61 #[] rfl [] (by simp) _ bld_bk ?_
 simp only [Act.put, pqA, pqB, pqC]
 refine WL.box (by kernel_rfl) 61 (.tmp 17) rfl #[.slice none 0 0] rfl ?_
 have K4 := Keep.mk (BkH.new w3)
 have b_ := below_new w3 (.cells #[.slice none 0 0] 61)
 generalize w3.alloc (.cells #[.slice none 0 0] 61) = w4 at *
 obtain ⟨x, hx⟩ : ∃ z, Keep (z = w3.heap.size) := ⟨_, ⟨rfl⟩⟩
 have BK4 : Keep (BkH w.heap.size w4 x []) := ⟨by
  have h := K4.out
  rw [hx.out]
  exact ⟨Nat.le_trans B3.out.size h.ge, by
   obtain ⟨vr, cs, h1, h2, h3, h4⟩ := h.ex
   have hn : cs.length = 0 := by rw [h3]; rfl
   exact ⟨vr, cs, h1, ⟨h2.1, by
    rcases h2.2 with h5 | ⟨g', c', cur, h5, h6, h7⟩
    ·exact .inl h5
    ·exact .inr ⟨g', c', cur, h5, Nat.le_trans B3.out.size h6, h7⟩⟩, h3, h4⟩⟩⟩
 rw [← hx.out]
 have Q4 := Keep.mk (Q3.out.below b_ Q3.out.lt)
 have D4 := Keep.mk (D3.out.below b_ D3.out.lt)
 have R4 := Keep.mk (R3.out.below b_ R3.out.lt)
 have B4 : Keep (Below w.heap.size w w4) := ⟨B3.out.trans (b_.mono B3.out.size)⟩
 clear b_ K4 Q3 D3 R3 hx
 have w0_ : w4.cell? ⟨d, 0, none⟩ = some (.int .i64 0) := D4.out.c 0 rfl
 have w1_ : w4.cell? ⟨d, 1, none⟩ = some (.slice la 0 cap) := D4.out.c 1 rfl
 simp only [Act.put, pqA, pqB, pqC]
 refine VlS (.pointer (some ⟨x, 0, none⟩)) ?_
 refine WL.nil (hK2 _ _ ?_)
 refine wp_seq_k fun K3 hK3 => rgn ?_
 refine VlS (.int .i64 kind) ?_
 refine WL.callF (by kernel_rfl) 31 _ _ rfl Try.in31 #[.int .i64 kind] (by simp [Act.eval]) ?_
 refine (kmay_any kind _).mono ?_
 rintro e w1_z ⟨rfl, hw_⟩
 refine ⟨_, rfl, ?_⟩
 have hw_ := hw_.symm
 subst hw_
 rw [hkm]
 simp only [Act.put, pqA, pqB, pqC]
 refine VbT ?_
 refine WL.nil (hK3 _ _ ?_)
 refine wp_seq_k fun K4 hK4 => ?_
 refine wp_seq_k fun K5 hK5 => rgn ?_
 refine VbT ?_
 refine VbF ?_
 refine WL.nil (hK5 _ _ ?_)
 refine wp_cond_false rfl ?_
 refine wp_skip ?_
 refine hK4 _ _ ?_
 refine wp_seq_k fun K6 hK6 => ?_
 refine wp_seq_k fun K7 hK7 => rgn ?_
 refine VlS (.pointer (some ⟨d, 0, none⟩)) ?_
 refine VlS (.int .i64 0) ?_
 refine VbF ?_
 refine VbF ?_
 refine VlS (.pointer (some ⟨d, 1, none⟩)) ?_
 refine VlS (.slice la 0 cap) ?_
 refine VlS (.int .i64 0) ?_
 refine VbF ?_
 refine VbF ?_
 refine VbF ?_
 refine VlS (.pointer (some ⟨d, 0, none⟩)) ?_
 refine VlS (.int .i64 0) ?_
 refine VbT ?_
 refine VlS (.pointer (some ⟨d, 1, none⟩)) ?_
 refine VlS (.slice la 0 cap) ?_
 refine VlS (.int .i64 0) ?_
 refine VbT ?_
 refine VbF ?_
 refine VbF ?_
 refine WL.nil (hK7 _ _ ?_)
 refine wp_cond_false rfl ?_
 refine wp_skip ?_
 refine hK6 _ _ ?_
 refine wp_seq_k fun K8 hK8 => ?_
 refine wp_seq_k fun K9 hK9 => rgn ?_
 refine VlS (.pointer (some ⟨d, 0, none⟩)) ?_
 refine VlS (.int .i64 0) ?_
 refine VbT ?_
 refine WL.nil (hK9 _ _ ?_)
 refine wp_cond_true rfl ?_
 refine wp_seq_k fun K10 hK10 => ?_
 refine wp_seq_k fun K11 hK11 => ?_
 obtain ⟨hr_, hre⟩ : ∃ z : Array Value, Keep (z = (bytesA 32 root.f)) := ⟨_, ⟨rfl⟩⟩
 obtain ⟨hz_, hze⟩ : ∃ z : Array Value, Keep (z = (bytesA 32 fun _ => 0)) := ⟨_, ⟨rfl⟩⟩
 have bq := (Below.refl w4.heap.size w4).drew
 have Qd : Keep (Blk w4.drew q 25 hr_) := ⟨by rw [hre.out]; exact Q4.out⟩
 have Rd4 : Keep (Blk w4.drew r 40 #[.int .i64 0, .string ByteArray.empty, .slice none 0 0]) := ⟨R4.out⟩
 have BKd4 := Keep.mk (BK4.out.below bq)
 have Bd4 : Keep (Below w.heap.size w w4.drew) := ⟨B4.out.drew⟩
 clear w0_ w1_ Q4 R4 BK4 B4 D4 bq
 have HTP : Keep (Calls Try.prog 52 #[.pointer (some ⟨x, 0, none⟩), .int .i64 ((0 : Nat) : Int), .agg hz_] w4.drew fun e w' => e = .returned (.agg h0) ∧ BkH w.heap.size w' x [2 :: (le8 0 ++ [])] ∧ Grown w4.drew w' (BkS w.heap.size w4.drew)) := ⟨by
  have h := top_any w.heap.size x 0 (fun _ => 0) [] w4.drew BKd4.out (by omega) (by simp) Bd4.out.size
  rw [hze.out, h0e.out, hx0.out, ← encH_arr, ← shaH_arr]
  exact h⟩
 refine wp_region_held_drew (S := fun wx => wx.rangeAt q 0 hr_.toList) (by kernel_rfl) (blk_range Qd.out) (fun hHeld => ?_)
 refine TkC (i := 0) (oi := ⟨some 47, Op.move (Operand.tmp 12), 58, _, _, none⟩) (v := .pointer (some ⟨x, 0, none⟩)) rfl hHeld ?_
 refine tkS (i := 3) (oi := ⟨some 50, Op.load 25 (Operand.tmp 4), 25, _, _, none⟩) (v := .agg hr_) rfl (yieldsIf_ld (by rfl) (Operand.tmp 4) 25 rfl q 0 rfl hr_ _ Try.underlying25 rfl (by rw [hre.out]; exact Try.size25B _) fun w hS => hS) hHeld ?_
 refine wpAnyH_ready (rs := [1]) (by kernel_rfl) (by simp) ?_
 refine AllReadyH.cons (o := ⟨some 48, Op.build 25 #[], 25, _, _, none⟩) rfl (fun K hK => ?_) AllReadyH.nil
 rw [if_pos (by rfl)]
 refine wp_bldG 25 #[] rfl hz_ (by rw [hze.out]; simpa using bld_hz) ?_
 refine hK _ _ (blk_range Qd.out) fun hH_ => ?_
 clear hK
 simp only [Act.put, pqA, pqB, pqC]
 refine wpAnyH_ready (rs := [2]) (by kernel_rfl) (by simp) ?_
 refine AllReadyH.cons (o := ⟨some 49, Op.call { callee := Callee.value (Operand.func 52), args := #[Operand.tmp 47, Operand.const (Value.int IntKind.i64 0), Operand.tmp 48], argTypes := #[58, 3, 25] }, 25, _, _, none⟩) rfl (fun K hK => ?_) AllReadyH.nil
 rw [if_pos (by rfl)]
 refine wp_callF 52 _ _ rfl Try.in52 #[.pointer (some ⟨x, 0, none⟩), .int .i64 ((0 : Nat) : Int), .agg hz_] (by simp [Act.eval]) (fun vz wz => vz = .agg h0 ∧ BkH w.heap.size wz x [2 :: (le8 0 ++ [])] ∧ Grown w4.drew wz (BkS w.heap.size w4.drew)) ?_ ?_
 ·refine (HTP.out).mono ?_
  rintro e wz ⟨rfl, k1, k2⟩
  exact ⟨_, rfl, rfl, k1, k2⟩
 rintro vz w5 ⟨rfl, k1, k2⟩
 have BK5 := Keep.mk k1
 have B5 : Keep (Below w.heap.size w w5) := ⟨Bd4.out.trans (k2.bkBelow Bd4.out.size)⟩
 have Q5 := Keep.mk (Qd.out.bk k2 (by decide) (by decide))
 have R5 := Keep.mk (Rd4.out.bk k2 (by decide) (by decide))
 clear k1 k2 Qd Rd4 BKd4 Bd4
 refine hK _ _ (blk_range Q5.out) fun hH_ => ?_
 clear hK
 simp only [Act.put, pqA, pqB, pqC]
 refine tkS (i := 4) (oi := ⟨some 51, Op.binOp BinOp.neq 25 (Operand.tmp 49) (Operand.tmp 50) 25, 4, _, _, none⟩) (v := .bool true) rfl (Or.inl ⟨by rfl, fun w hS => by have hq_ := eqB h0e.out hre.out HE.out w; clear hS; go_simp⟩) hH_ ?_
 refine wpAnyH_done (by kernel_rfl) ?_ _
 refine hK11 _ _ ?_
 refine wp_cond_true rfl ?_
 refine wp_seq_k fun K12 hK12 => ?_
 have BKd := Keep.mk (BK5.out.below (Below.refl w5.heap.size w5).drew)
 obtain ⟨vr, us0, cvr, -, -⟩ := BKd.out.rsv (by simp)
 have Rd : Keep (Blk w5.drew r 40 #[.int .i64 0, .string ByteArray.empty, .slice none 0 0]) := ⟨R5.out⟩
 have Bd : Keep (Below w.heap.size w w5.drew) := ⟨B5.out.drew⟩
 have hxr : Keep (x ≠ r) := ⟨fun e => absurd (BKd.out.typX.one (show Typ w5.drew x 40 from e ▸ Rd.out.typ)) (by decide)⟩
 refine wp_region_held_drew (S := fun wx => wx.cell? ⟨x, 0, none⟩ = some vr) (by kernel_rfl) (cvr) (fun hHeld => ?_)
 refine TkG (i := 1) (oi := ⟨some 53, Op.move (Operand.tmp 12), 58, _, _, none⟩) (v := .pointer (some ⟨x, 0, none⟩)) rfl hHeld ?_
 refine TkG (i := 2) (oi := ⟨some 54, Op.nilCheck (Operand.tmp 53), 0, _, _, none⟩) (v := .pointer (some ⟨x, 0, none⟩)) rfl hHeld ?_
 refine TkG (i := 3) (oi := ⟨some 55, Op.fieldAddr 61 (Operand.tmp 54) 0, 0, _, _, none⟩) (v := .pointer (some ⟨x, 0, none⟩)) rfl hHeld ?_
 refine TkG (i := 4) (oi := ⟨some 56, Op.load 59 (Operand.tmp 55), 59, _, _, none⟩) (v := vr) rfl hHeld ?_
 refine wpAnyH_ready (rs := [0]) (by kernel_rfl) (by simp) ?_
 refine AllReadyH.cons (o := ⟨some 52, Op.build 40 #[], 40, _, _, none⟩) rfl (fun K hK => ?_) AllReadyH.nil
 rw [if_pos (by rfl)]
 refine wp_bldG 40 #[] rfl #[.int .i64 0, .string ByteArray.empty, .slice none 0 0] (by simpa using bldC) ?_
 refine hK _ _ cvr fun hH_ => ?_
 clear hK
 simp only [Act.put, pqA, pqB, pqC]
 refine wpAnyH_ready (rs := [5]) (by kernel_rfl) (by simp) ?_
 refine AllReadyH.cons (o := ⟨none, Op.store 40 (Operand.tmp 8) (Operand.tmp 52), 0, _, _, none⟩) rfl (fun K hK => ?_) AllReadyH.nil
 rw [if_pos (by rfl)]
 refine wp_store_row 40 (.tmp 8) (.tmp 52) rfl r #[.int .i64 0, .string ByteArray.empty, .slice none 0 0] rfl rfl 40 #[.int .i64 0, .string ByteArray.empty, .slice none 0 0] Rd.out (Try.sizeC _ _ _) rfl (by simp [Value.oneCell']) ?_
 have R9 := Keep.mk (Rd.out.setRow #[.int .i64 0, .string ByteArray.empty, .slice none 0 0])
 have g_ : Grown w5.drew (w5.drew.setRow r #[.int .i64 0, .string ByteArray.empty, .slice none 0 0]) (fun k => k = r) := Grown.setRow _ r #[.int .i64 0, .string ByteArray.empty, .slice none 0 0] fun _ => rfl
 have cvr9 := g_.cell cvr hxr.out
 have BK9 := Keep.mk (BKd.out.setRow Rd.out #[.int .i64 0, .string ByteArray.empty, .slice none 0 0] (by decide) (by decide) (by decide))
 have B9 : Keep (Below w.heap.size w (w5.drew.setRow r #[.int .i64 0, .string ByteArray.empty, .slice none 0 0])) := ⟨below_setRow Bd.out gr.out _⟩
 generalize w5.drew.setRow r #[.int .i64 0, .string ByteArray.empty, .slice none 0 0] = w9 at *
 clear g_
 have RS9 : Keep (∃ us, RsV w9 vr us _) := ⟨by
  obtain ⟨vr', us', c', h1, _⟩ := BK9.out.rsv (by simp)
  obtain rfl : vr' = vr := Option.some.inj (c'.symm.trans cvr9)
  exact ⟨us', h1⟩⟩
 refine hK _ _ cvr9 fun hH_ => ?_
 clear hK
 simp only [Act.put, pqA, pqB, pqC]
 refine TkG (i := 6) (oi := ⟨some 9, Op.assign (Operand.const (Value.bool false)), 4, _, _, none⟩) (v := .bool false) rfl hH_ ?_
 refine TkG (i := 7) (oi := ⟨some 10, Op.assign (Operand.const (Value.int IntKind.i64 190)), 26, _, _, none⟩) (v := .int .i64 190) rfl hH_ ?_
 refine TkG (i := 8) (oi := ⟨some 11, Op.assign (Operand.tmp 56), 59, _, _, none⟩) (v := vr) rfl hH_ ?_
 refine wpAnyH_done (by kernel_rfl) ?_ _
 refine hK12 _ _ ?_
 refine wp_ret ?_
 try simp only [Exit.inBlock, Exit.then]
 refine bodyPost_ret (v := .tuple #[.agg #[.int .i64 0, .string ByteArray.empty, .slice none 0 0], .bool false, .int .i64 190, vr]) (results_cell_row4 Try.results39 _ _ r 40 _ (0, 0) _ _ _ _ rfl rfl rfl rfl R9.out Try.underlying40 rfl (Try.sizeC _ _ _)) rfl ⟨⟨0, ByteArray.empty, .slice none 0 0, []⟩, vr, ?_, .inl ⟨rfl, rfl⟩, B9.out, fun _ => rfl, fun y h => (by rw [hI.out] at h; cases h), fun h => by rw [hE.out] at h; cases h⟩
 rw [hE.out, hI.out] <;> rfl
theorem says_vals {n kind : Int} {key : ByteArray} {ls : List LV} : saysI n ls kind key = -1 ∨ saysI n ls kind key = 0 ∨ saysI n ls kind key = 1 := by
 unfold saysI
 split
 ·split
  ·exact .inr (.inr rfl)
  ·split
   ·exact .inr (.inl rfl)
   ·exact .inl rfl
 ·split
  ·exact .inr (.inl rfl)
  ·exact .inl rfl
 ·exact .inl rfl
theorem tak_bad {root : Hs} {n : Nat} {kind : Int} {key : ByteArray} {ls : List LV} {m : Nat} {y : LV} (hn : 0 < n) (hml : ls.length = m) (h1 : 1 ≤ m) (h2 : m ≤ 2) (hy : y ∈ ls) (h : (okL (n : Int) y && rgtB n y root) = false) : takB root (n : Int) kind key ls = false := by
 unfold takB formB rtB
 rw [if_neg (by omega), if_neg (by omega), if_neg (by omega), Int.toNat_natCast]
 rw [Bool.and_eq_false_iff] at h
 rcases h with h | h
 ·rw [show ls.all (okL (n : Int)) = false from by rw [List.all_eq_false]; exact ⟨y, hy, by rw [h]; simp⟩]; rfl
 ·rw [show (ls.all fun x => rgtB n x root) = false from by rw [List.all_eq_false]; exact ⟨y, hy, by rw [h]; simp⟩]; simp
theorem tak_says {root : Hs} {n : Nat} {kind : Int} {key : ByteArray} {ls : List LV} {m : Nat} (hn : 0 < n) (hml : ls.length = m) (h1 : 1 ≤ m) (h2 : m ≤ 2) (h : ∀ y ∈ ls, (okL (n : Int) y && rgtB n y root) = true) : takB root (n : Int) kind key ls = decide (0 ≤ saysI (n : Int) ls kind key) := by
 rw [← (ans_says (n := (n : Int)) (kind := kind) (key := key) (ls := ls) (by omega) (by omega)).1]
 unfold takB formB rtB
 rw [if_neg (by omega), if_neg (by omega), if_neg (by omega), Int.toNat_natCast]
 have e1 : ls.all (okL (n : Int)) = true := by rw [List.all_eq_true]; intro y hy; have := h y hy; simp at this; exact this.1
 have e2 : (ls.all fun x => rgtB n x root) = true := by rw [List.all_eq_true]; intro y hy; have := h y hy; simp at this; exact this.2
 rw [e1, e2]
 simp
theorem climb_rows {k n i : Nat} {h : List Int} : ∀ (k n i : Nat) (h : List Int) (p : List (List Int)) (t : List Int) (rs : List (List Int)), RtP.climb shaL k n i h p = some (t, rs) → rs.length ≤ p.length
 | 0, n, i, h, p, t, rs, hc => by simp [RtP.climb] at hc
 | k + 1, n, i, h, p, t, rs, hc => by
  unfold RtP.climb at hc
  split at hc
  ·split at hc
   ·injection hc with hc
    injection hc with _ h2
    rw [← h2]; simp
   ·cases hc
  ·split at hc
   ·cases hc
   ·split at hc
    ·split at hc
     ·rename_i x rs' e
      injection hc with hc
      injection hc with _ h2
      have := climb_rows (k := 0) (n := 0) (i := 0) (h := []) _ _ _ _ _ _ _ e
      rw [← h2]; simp; omega
     ·cases hc
    ·split at hc
     ·rename_i x rs' e
      injection hc with hc
      injection hc with _ h2
      have := climb_rows (k := 0) (n := 0) (i := 0) (h := []) _ _ _ _ _ _ _ e
      rw [← h2]; simp; omega
     ·cases hc
theorem rwsOf_len (n : Nat) (x : LV) : (rwsOf n x).length ≤ x.ps.length + 2 := by
 unfold rwsOf
 split
 ·rename_i t rt e
  have := climb_rows (k := 0) (n := 0) (i := 0) (h := []) _ _ _ _ _ _ _ e
  simp at this ⊢
  omega
 ·simp
theorem rows_len {ls : List LV} {m n : Nat} (hml : ls.length = m) (hm2 : m ≤ 2) (h : SmP ls) (t : Nat) (y : LV) (hy : y ∈ ls) : ((ls.take t).flatMap (rwsOf n)).length + y.ps.length + 3 ≤ 4398046511104 := by
 have hb : ∀ l : List LV, (∀ x ∈ l, x.ps.length ≤ 1000000000000) → (l.flatMap (rwsOf n)).length ≤ l.length * 1000000000002 := by
  intro l
  induction l with
  | nil => intro _; simp
  | cons a r ih =>
   intro hl
   have h1 := ih fun x hx => hl x (by simp [hx])
   have h2 := rwsOf_len n a
   have h3 := hl a (by simp)
   rw [List.flatMap_cons, List.length_append, List.length_cons, Nat.add_mul]
   omega
 have h1 := hb (ls.take t) fun x hx => (h x (List.mem_of_mem_take hx)).2
 have h2 := (h y hy).2
 have h3 : (ls.take t).length ≤ 2 := by rw [List.length_take]; omega
 have h4 : (ls.take t).length * 1000000000002 ≤ 2 * 1000000000002 := Nat.mul_le_mul_right _ h3
 omega
theorem rows_pos {ls : List LV} {m n : Nat} {root : Hs} (hml : ls.length = m) (hm1 : 1 ≤ m) (h : ∀ y ∈ ls, (okL (n : Int) y && rgtB n y root) = true) : 0 < (ls.flatMap (rwsOf n)).length := by
 match ls, hml, h with
 | [], e, _ => simp at e; omega
 | y :: r, _, h =>
  have h1 := h y (by simp)
  simp at h1
  have h2 := h1.2
  unfold rgtB at h2
  rw [List.flatMap_cons, List.length_append]
  have : 0 < (rwsOf n y).length := by
   unfold rwsOf
   split
   ·simp
   ·rename_i e; rw [e] at h2; cases h2
  omega
set_option maxRecDepth 8000 in
set_option maxHeartbeats 2000000 in
theorem wk_some (b off m cap n : Nat) (kind : Int) (key : ByteArray) (ls : List LV) (root : Hs) (w : World) (hkm : kmay kind = true) (hml : Keep (ls.length = m)) (hm1 : 1 ≤ m) (hm2 : m ≤ 2) (hmc : m ≤ cap) (hn : 0 < n) (Hn : Keep (n < 9223372036854775808)) (HPs : Keep (SmP ls)) (HLs : Keep (LsAt w.heap.size w b off ls)) : Calls Try.prog 39 #[.agg (bytesA 32 root.f), .int .i64 kind, .string key, .agg (wtA (n : Int) (.slice (some ⟨b, off, none⟩) m cap))] w (WkP root (n : Int) kind key ls w) := by
 have hn0 : ((n : Int) == 0) = false := by simp; omega
 have hn0' : ¬ n = 0 := by omega
 have hm3 : ¬ (m : Int) > 2 := by omega
 have hm4 : ¬ 2 < (m : Int) := by omega
 have hm0 : ((m : Int) == 0) = false := by simp; omega
 have hm0' : ¬ m = 0 := by omega
 go_enter Try.func39, Try.ntmps39
 refine wp_seq_k fun K1 hK1 => rgn ?_
 refine WL.box (by kernel_rfl) 25 (.tmp 0) rfl (bytesA 32 root.f) rfl ?_
 have Q1 := Keep.mk (Blk.new w 25 (bytesA 32 root.f))
 have b_ := below_new w (.cells (bytesA 32 root.f) 25)
 change WL _ _ _ _ _ (w.alloc (.cells (bytesA 32 root.f) 25))
 generalize w.alloc (.cells (bytesA 32 root.f) 25) = w1 at *
 obtain ⟨q, hq0⟩ : ∃ z, Keep (z = w.heap.size) := ⟨_, ⟨rfl⟩⟩
 rw [← hq0.out] at Q1 ⊢
 have B1 : Keep (Below w.heap.size w w1) := ⟨b_⟩
 have gq : Keep (w.heap.size ≤ q) := ⟨by rw [hq0.out]; exact Nat.le_refl _⟩
 clear b_
 simp only [Act.put, pqA, pqB, pqC]
 refine WL.box (by kernel_rfl) 31 (.tmp 3) rfl (wtA (n : Int) (.slice (some ⟨b, off, none⟩) m cap)) rfl ?_
 have D2 := Keep.mk (Blk.new w1 31 (wtA (n : Int) (.slice (some ⟨b, off, none⟩) m cap)))
 have b_ := below_new w1 (.cells (wtA (n : Int) (.slice (some ⟨b, off, none⟩) m cap)) 31)
 change WL _ _ _ _ _ (w1.alloc (.cells (wtA (n : Int) (.slice (some ⟨b, off, none⟩) m cap)) 31))
 generalize w1.alloc (.cells (wtA (n : Int) (.slice (some ⟨b, off, none⟩) m cap)) 31) = w2 at *
 obtain ⟨d, hd0⟩ : ∃ z, Keep (z = w1.heap.size) := ⟨_, ⟨rfl⟩⟩
 rw [← hd0.out] at D2 ⊢
 have Q2 := Keep.mk (Q1.out.below b_ Q1.out.lt)
 have B2 : Keep (Below w.heap.size w w2) := ⟨B1.out.trans (b_.mono B1.out.size)⟩
 have gd : Keep (w.heap.size ≤ d) := ⟨by rw [hd0.out]; exact B1.out.size⟩
 clear b_
 simp only [Act.put, pqA, pqB, pqC]
 refine WL.new (by kernel_rfl) 40 rfl _ Try.newC ?_
 have R3 := Keep.mk (Blk.new w2 40 #[.int .i64 0, .string ByteArray.empty, .slice none 0 0])
 have b_ := below_new w2 (.cells #[.int .i64 0, .string ByteArray.empty, .slice none 0 0] 40)
 change WL _ _ _ _ _ (w2.alloc (.cells #[.int .i64 0, .string ByteArray.empty, .slice none 0 0] 40))
 generalize w2.alloc (.cells #[.int .i64 0, .string ByteArray.empty, .slice none 0 0] 40) = w3 at *
 obtain ⟨r, hr0⟩ : ∃ z, Keep (z = w2.heap.size) := ⟨_, ⟨rfl⟩⟩
 rw [← hr0.out] at R3 ⊢
 have Q3 := Keep.mk (Q2.out.below b_ Q2.out.lt)
 have D3 := Keep.mk (D2.out.below b_ D2.out.lt)
 have B3 : Keep (Below w.heap.size w w3) := ⟨B2.out.trans (b_.mono B2.out.size)⟩
 have gr : Keep (w.heap.size ≤ r) := ⟨by rw [hr0.out]; exact B2.out.size⟩
 clear b_
 simp only [Act.put, pqA, pqB, pqC]
 refine VbF ?_
 refine VlS (.int .i64 0) ?_
 refine VlS (.slice none 0 0) ?_
 refine WL.nil (hK1 _ _ ?_)
 refine wp_seq_k fun K2 hK2 => rgn ?_
 refine WL.bld (by kernel_rfl) 61 #[] rfl [] (by simp) _ bld_bk ?_
 simp only [Act.put, pqA, pqB, pqC]
 refine WL.box (by kernel_rfl) 61 (.tmp 17) rfl #[.slice none 0 0] rfl ?_
 have K4 := Keep.mk (BkH.new w3)
 have b_ := below_new w3 (.cells #[.slice none 0 0] 61)
 generalize w3.alloc (.cells #[.slice none 0 0] 61) = w4 at *
 obtain ⟨x, hx⟩ : ∃ z, Keep (z = w3.heap.size) := ⟨_, ⟨rfl⟩⟩
 have BK4 : Keep (BkH w.heap.size w4 x []) := ⟨by
  have h := K4.out
  rw [hx.out]
  exact ⟨Nat.le_trans B3.out.size h.ge, by
   obtain ⟨vr, cs, h1, h2, h3, h4⟩ := h.ex
   have hn : cs.length = 0 := by rw [h3]; rfl
   exact ⟨vr, cs, h1, ⟨h2.1, by
    rcases h2.2 with h5 | ⟨g', c', cur, h5, h6, h7⟩
    ·exact .inl h5
    ·exact .inr ⟨g', c', cur, h5, Nat.le_trans B3.out.size h6, h7⟩⟩, h3, h4⟩⟩⟩
 rw [← hx.out]
 have Q4 := Keep.mk (Q3.out.below b_ Q3.out.lt)
 have D4 := Keep.mk (D3.out.below b_ D3.out.lt)
 have R4 := Keep.mk (R3.out.below b_ R3.out.lt)
 have B4 : Keep (Below w.heap.size w w4) := ⟨B3.out.trans (b_.mono B3.out.size)⟩
 clear b_ K4 Q3 D3 R3 hx
 have w0_ : w4.cell? ⟨d, 0, none⟩ = some (.int .i64 (n : Int)) := D4.out.c 0 rfl
 have w1_ : w4.cell? ⟨d, 1, none⟩ = some (.slice (some ⟨b, off, none⟩) m cap) := D4.out.c 1 rfl
 simp only [Act.put, pqA, pqB, pqC]
 refine VlS (.pointer (some ⟨x, 0, none⟩)) ?_
 refine WL.nil (hK2 _ _ ?_)
 refine wp_seq_k fun K3 hK3 => rgn ?_
 refine VlS (.int .i64 kind) ?_
 refine WL.callF (by kernel_rfl) 31 _ _ rfl Try.in31 #[.int .i64 kind] (by simp [Act.eval]) ?_
 refine (kmay_any kind _).mono ?_
 rintro e w1_z ⟨rfl, hw_⟩
 refine ⟨_, rfl, ?_⟩
 have hw_ := hw_.symm
 subst hw_
 rw [hkm]
 simp only [Act.put, pqA, pqB, pqC]
 refine VbT ?_
 refine WL.nil (hK3 _ _ ?_)
 refine wp_seq_k fun K4 hK4 => ?_
 refine wp_seq_k fun K5 hK5 => rgn ?_
 refine VbT ?_
 refine VbF ?_
 refine WL.nil (hK5 _ _ ?_)
 refine wp_cond_false rfl ?_
 refine wp_skip ?_
 refine hK4 _ _ ?_
 refine wp_seq_k fun K6 hK6 => ?_
 refine wp_seq_k fun K7 hK7 => rgn ?_
 refine VlS (.pointer (some ⟨d, 0, none⟩)) ?_
 refine VlS (.int .i64 (n : Int)) ?_
 refine VbF ?_
 refine VbF ?_
 refine VlS (.pointer (some ⟨d, 1, none⟩)) ?_
 refine VlS (.slice (some ⟨b, off, none⟩) m cap) ?_
 refine VlS (.int .i64 (m : Int)) ?_
 refine VbF ?_
 refine VbF ?_
 refine VbF ?_
 refine VlS (.pointer (some ⟨d, 0, none⟩)) ?_
 refine VlS (.int .i64 (n : Int)) ?_
 refine VbF ?_
 refine VlS (.pointer (some ⟨d, 1, none⟩)) ?_
 refine VlS (.slice (some ⟨b, off, none⟩) m cap) ?_
 refine VlS (.int .i64 (m : Int)) ?_
 refine VbF ?_
 refine VbF ?_
 refine VbF ?_
 refine WL.nil (hK7 _ _ ?_)
 refine wp_cond_false rfl ?_
 refine wp_skip ?_
 refine hK6 _ _ ?_
 refine wp_seq_k fun K8 hK8 => ?_
 refine wp_seq_k fun K9 hK9 => rgn ?_
 refine VlS (.pointer (some ⟨d, 0, none⟩)) ?_
 refine VlS (.int .i64 (n : Int)) ?_
 refine VbF ?_
 refine WL.nil (hK9 _ _ ?_)
 refine wp_cond_false rfl ?_
 refine wp_skip ?_
 refine hK8 _ _ ?_
 refine wp_seq_k fun K10 hK10 => ?_
 refine wp_seq_k fun K11 hK11 => rgn ?_
 refine VlS (.int .i64 0) ?_
 refine WL.nil (hK11 _ _ ?_)
 refine wp_block ?_
 refine wp_loop (fun ac wr => ∃ (t : Nat) (f : Nat → Value), ac = { tmps := #[.agg (bytesA 32 root.f), .int .i64 kind, .string key, .agg (wtA (n : Int) (.slice (some ⟨b, off, none⟩) m cap)), .pointer (some ⟨q, 0, none⟩), undef, undef, .pointer (some ⟨d, 0, none⟩), .pointer (some ⟨r, 0, none⟩), f 9, f 10, f 11, .pointer (some ⟨x, 0, none⟩), .bool true, .int .i64 (t : Int), f 15, undef, .agg #[.slice none 0 0], .pointer (some ⟨x, 0, none⟩), .int .i64 kind, .bool true, .bool true, .bool false, undef, .pointer (some ⟨d, 0, none⟩), .int .i64 (n : Int), .bool false, .bool false, .pointer (some ⟨d, 1, none⟩), .slice (some ⟨b, off, none⟩) m cap, .int .i64 (m : Int), .bool false, .bool false, .bool false, .pointer (some ⟨d, 0, none⟩), .int .i64 (n : Int), .bool false, .pointer (some ⟨d, 1, none⟩), .slice (some ⟨b, off, none⟩) m cap, .int .i64 (m : Int), .bool false, .bool false, .bool false, undef, .pointer (some ⟨d, 0, none⟩), .int .i64 (n : Int), .bool false, undef, undef, undef, undef, undef, undef, undef, undef, undef, undef, undef, undef, undef, undef, undef, f 62, f 63, f 64, f 65, f 66, f 67, f 68, f 69, f 70, f 71, f 72, f 73, f 74, f 75, f 76, f 77, f 78, f 79, f 80, f 81, f 82, f 83, f 84, f 85, undef, undef, undef, undef, undef, undef, undef, undef, undef, undef, undef, undef, undef, undef, undef, undef, undef, undef, undef, undef, undef, undef, undef, undef, undef, undef, undef], defers := [] } ∧ t ≤ m ∧ Blk wr q 25 (bytesA 32 root.f) ∧ Blk wr d 31 (wtA (n : Int) (.slice (some ⟨b, off, none⟩) m cap)) ∧ Blk wr r 40 #[.int .i64 0, .string ByteArray.empty, .slice none 0 0] ∧ BkH w.heap.size wr x ((ls.take t).flatMap (rwsOf n)) ∧ Below w.heap.size w wr ∧ (∀ (i : Nat) (y : LV), i < t → ls[i]? = some y → (okL (n : Int) y && rgtB n y root) = true)) (fun a _ => m - (intOf (a.tmps.getD 14 undef)).toNat) ⟨0, fun zz => [.agg (bytesA 32 root.f), .int .i64 kind, .string key, .agg (wtA (n : Int) (.slice (some ⟨b, off, none⟩) m cap)), .pointer (some ⟨q, 0, none⟩), undef, undef, .pointer (some ⟨d, 0, none⟩), .pointer (some ⟨r, 0, none⟩), .bool false, .int .i64 0, .slice none 0 0, .pointer (some ⟨x, 0, none⟩), .bool true, .int .i64 0, undef, undef, .agg #[.slice none 0 0], .pointer (some ⟨x, 0, none⟩), .int .i64 kind, .bool true, .bool true, .bool false, undef, .pointer (some ⟨d, 0, none⟩), .int .i64 (n : Int), .bool false, .bool false, .pointer (some ⟨d, 1, none⟩), .slice (some ⟨b, off, none⟩) m cap, .int .i64 (m : Int), .bool false, .bool false, .bool false, .pointer (some ⟨d, 0, none⟩), .int .i64 (n : Int), .bool false, .pointer (some ⟨d, 1, none⟩), .slice (some ⟨b, off, none⟩) m cap, .int .i64 (m : Int), .bool false, .bool false, .bool false, undef, .pointer (some ⟨d, 0, none⟩), .int .i64 (n : Int), .bool false, undef, undef, undef, undef, undef, undef, undef, undef, undef, undef, undef, undef, undef, undef, undef, undef, undef, undef, undef, undef, undef, undef, undef, undef, undef, undef, undef, undef, undef, undef, undef, undef, undef, undef, undef, undef, undef, undef, undef, undef, undef, undef, undef, undef, undef, undef, undef, undef, undef, undef, undef, undef, undef, undef, undef, undef, undef, undef, undef, undef, undef, undef, undef, undef, undef, undef].getD zz undef, rfl, by omega, Q4.out, D4.out, R4.out, (by simpa using BK4.out), B4.out, fun i y hi _ => by omega⟩ ?_
 rintro ac wr ⟨t, f, rfl, ht, hQ, hD, hR, hBK, hb, hI2⟩
 have Q5 := Keep.mk hQ
 have D5 := Keep.mk hD
 have R5 := Keep.mk hR
 have BK5 := Keep.mk hBK
 have B5 := Keep.mk hb
 have HI_ := Keep.mk hI2
 clear hQ hD hR hBK hb hI2
 try clear w0_ w1_
 have w0_ : wr.cell? ⟨d, 0, none⟩ = some (.int .i64 (n : Int)) := D5.out.c 0 rfl
 have w1_ : wr.cell? ⟨d, 1, none⟩ = some (.slice (some ⟨b, off, none⟩) m cap) := D5.out.c 1 rfl
 by_cases htl : t < m
 ·have htl' : (t : Int) < (m : Int) := by omega
  have hw3 : IntKind.i64.wrap ((t : Int) + 1) = ((t + 1 : Nat) : Int) := by rw [IntKind.wrap_i64]; omega
  obtain ⟨y, Hy⟩ : ∃ z, Keep (ls[t]? = some z) := ⟨ls[t]'(by rw [hml.out]; exact htl), ⟨List.getElem?_eq_getElem _⟩⟩
  have Hm : Keep (y ∈ ls) := ⟨List.mem_of_getElem? Hy.out⟩
  have HNr : Keep (((ls.take t).flatMap (rwsOf n)).length + y.ps.length + 3 ≤ 4398046511104) := ⟨rows_len hml.out hm2 HPs.out t y Hm.out⟩
  refine wp_seq_k fun K12 hK12 => ?_
  refine wp_seq_k fun K13 hK13 => rgn ?_
  refine VlS (.int .i64 (t : Int)) ?_
  refine VlS (.pointer (some ⟨d, 1, none⟩)) ?_
  refine VlS (.slice (some ⟨b, off, none⟩) m cap) ?_
  refine VlS (.int .i64 (m : Int)) ?_
  refine VbT ?_
  refine WL.nil (hK13 _ _ ?_)
  refine wp_cond_true rfl ?_
  refine wp_skip ?_
  refine hK12 _ _ ?_
  refine wp_seq_k fun K14 hK14 => ?_
  refine wp_block ?_
  refine wp_seq_k fun K15 hK15 => ?_
  obtain ⟨hr_, hre⟩ : ∃ z : Array Value, Keep (z = (bytesA 32 root.f)) := ⟨_, ⟨rfl⟩⟩
  have bq := (Below.refl wr.heap.size wr).drew
  have Qd : Keep (Blk wr.drew q 25 (bytesA 32 root.f)) := ⟨Q5.out⟩
  have Dd : Keep (Blk wr.drew d 31 (wtA (n : Int) (.slice (some ⟨b, off, none⟩) m cap))) := ⟨D5.out⟩
  have Rd : Keep (Blk wr.drew r 40 #[.int .i64 0, .string ByteArray.empty, .slice none 0 0]) := ⟨R5.out⟩
  have BKd := Keep.mk (BK5.out.below bq)
  have Bd : Keep (Below w.heap.size w wr.drew) := ⟨B5.out.drew⟩
  clear w0_ w1_ Q5 D5 R5 BK5 B5 bq
  have hS0 : Keep (∀ wx : World, Below w.heap.size w wx → Blk wx q 25 (bytesA 32 root.f) → Blk wx d 31 (wtA (n : Int) (.slice (some ⟨b, off, none⟩) m cap)) → (wx.rangeAt q 0 hr_.toList ∧ wx.cell? ⟨d, 0, none⟩ = some (.int .i64 (n : Int)) ∧ wx.cell? ⟨d, 1, none⟩ = some (.slice (some ⟨b, off, none⟩) m cap) ∧ wx.rangeAt b (off + t * 5) (lvA y).toList)) := ⟨fun wx hb h1 h2 => ⟨by rw [hre.out]; exact blk_range h1, h2.c 0 rfl, h2.c 1 rfl, (HLs.out.below hb).at_ t y Hy.out⟩⟩
  have HRG : Keep (Calls Try.prog 59 #[.pointer (some ⟨x, 0, none⟩), .agg hr_, .int .i64 (n : Int), .agg (lvA y)] wr.drew (RgP w.heap.size x n y root ((ls.take t).flatMap (rwsOf n)) wr.drew)) := ⟨by
   rw [hre.out]
   exact right_any w.heap.size x n y root _ wr.drew hn Hn.out BKd.out ((HLs.out.below Bd.out).lf y Hm.out) (HPs.out y Hm.out).1 HNr.out Bd.out.size⟩
  obtain ⟨ok, hok⟩ : ∃ z, Keep ((okL (n : Int) y && rgtB n y root) = z) := ⟨_, ⟨rfl⟩⟩
  refine wp_region_held_drew (S := fun wx => wx.rangeAt q 0 hr_.toList ∧ wx.cell? ⟨d, 0, none⟩ = some (.int .i64 (n : Int)) ∧ wx.cell? ⟨d, 1, none⟩ = some (.slice (some ⟨b, off, none⟩) m cap) ∧ wx.rangeAt b (off + t * 5) (lvA y).toList) (by kernel_rfl) (hS0.out _ Bd.out Qd.out Dd.out) (fun hHeld => ?_)
  refine tkS (i := 0) (oi := ⟨some 69, Op.move (Operand.tmp 12), 58, _, _, none⟩) (v := .pointer (some ⟨x, 0, none⟩)) rfl (Or.inl ⟨by rfl, fun w hS => by obtain ⟨hS1, hS2, hS3, hS4⟩ := hS; clear hS1 hS4; go_simp⟩) hHeld ?_
  refine tkS (i := 1) (oi := ⟨some 70, Op.load 25 (Operand.tmp 4), 25, _, _, none⟩) (v := .agg hr_) rfl (yieldsIf_ld (by rfl) (Operand.tmp 4) 25 rfl q 0 rfl hr_ _ Try.underlying25 rfl (by rw [hre.out]; exact Try.size25B _) fun w hS => hS.1) hHeld ?_
  refine tkS (i := 2) (oi := ⟨some 71, Op.fieldAddr 31 (Operand.tmp 7) 0, 0, _, _, none⟩) (v := .pointer (some ⟨d, 0, none⟩)) rfl (Or.inl ⟨by rfl, fun w hS => by obtain ⟨hS1, hS2, hS3, hS4⟩ := hS; clear hS1 hS4; go_simp⟩) hHeld ?_
  refine tkS (i := 4) (oi := ⟨some 73, Op.fieldAddr 31 (Operand.tmp 7) 1, 0, _, _, none⟩) (v := .pointer (some ⟨d, 1, none⟩)) rfl (Or.inl ⟨by rfl, fun w hS => by obtain ⟨hS1, hS2, hS3, hS4⟩ := hS; clear hS1 hS4; go_simp⟩) hHeld ?_
  refine tkS (i := 6) (oi := ⟨some 75, Op.move (Operand.tmp 14), 3, _, _, none⟩) (v := .int .i64 (t : Int)) rfl (Or.inl ⟨by rfl, fun w hS => by obtain ⟨hS1, hS2, hS3, hS4⟩ := hS; clear hS1 hS4; go_simp⟩) hHeld ?_
  refine tkS (i := 3) (oi := ⟨some 72, Op.load 3 (Operand.tmp 71), 3, _, _, none⟩) (v := .int .i64 (n : Int)) rfl (Or.inl ⟨by rfl, fun w hS => by obtain ⟨hS1, hS2, hS3, hS4⟩ := hS; clear hS1 hS4; go_simp⟩) hHeld ?_
  refine tkS (i := 5) (oi := ⟨some 74, Op.load 29 (Operand.tmp 73), 29, _, _, none⟩) (v := .slice (some ⟨b, off, none⟩) m cap) rfl (Or.inl ⟨by rfl, fun w hS => by obtain ⟨hS1, hS2, hS3, hS4⟩ := hS; clear hS1 hS4; go_simp⟩) hHeld ?_
  refine tkS (i := 7) (oi := ⟨some 76, Op.indexAddr 29 (Operand.tmp 74) (Operand.tmp 75), 0, _, _, none⟩) (v := .pointer (some ⟨b, off + t * 5, none⟩)) rfl (Or.inl ⟨by rfl, fun w hS => by obtain ⟨hS1, hS2, hS3, hS4⟩ := hS; clear hS1 hS4; go_simp⟩) hHeld ?_
  refine tkS (i := 8) (oi := ⟨some 77, Op.load 69 (Operand.tmp 76), 69, _, _, none⟩) (v := .agg (lvA y)) rfl (yieldsIf_ld (by rfl) (Operand.tmp 76) 69 rfl b (off + t * 5) rfl (lvA y) _ Try.underlying69 rfl (Try.sizeLf y) fun w hS => hS.2.2.2) hHeld ?_
  refine wpAnyH_ready (rs := [9]) (by kernel_rfl) (by simp) ?_
  refine AllReadyH.cons (o := ⟨some 78, Op.call { callee := Callee.value (Operand.func 59), args := #[Operand.tmp 69, Operand.tmp 70, Operand.tmp 72, Operand.tmp 77], argTypes := #[58, 25, 3, 69] }, 4, _, _, none⟩) rfl (fun K hK => ?_) AllReadyH.nil
  rw [if_pos (by rfl)]
  refine wp_callF 59 _ _ rfl Try.in59 #[.pointer (some ⟨x, 0, none⟩), .agg hr_, .int .i64 (n : Int), .agg (lvA y)] (by simp [Act.eval]) (fun vz wz => ∃ rows', vz = .bool ok ∧ BkH w.heap.size wz x rows' ∧ (ok = true → rows' = ((ls.take t).flatMap (rwsOf n)) ++ rwsOf n y) ∧ Grown wr.drew wz (BkS w.heap.size wr.drew)) ?_ ?_
  ·refine (HRG.out).mono ?_
   rintro e wz ⟨rows', rfl, k1, _, k2, _, k3⟩
   exact ⟨_, rfl, rows', by rw [hok.out], k1, by rw [← hok.out]; exact k2, k3⟩
  rintro vz w6 ⟨rows6, rfl, k1, k2, k3⟩
  have BK6 := Keep.mk k1
  have HRw := Keep.mk k2
  have B6 : Keep (Below w.heap.size w w6) := ⟨Bd.out.trans (k3.bkBelow Bd.out.size)⟩
  have Q6 := Keep.mk (Qd.out.bk k3 (by decide) (by decide))
  have D6 := Keep.mk (Dd.out.bk k3 (by decide) (by decide))
  have R6 := Keep.mk (Rd.out.bk k3 (by decide) (by decide))
  clear k1 k2 k3 Qd Dd Rd BKd Bd HRG
  refine hK _ _ (hS0.out _ B6.out Q6.out D6.out) fun hH_ => ?_
  clear hK
  simp only [Act.put, pqA, pqB, pqC]
  refine tkS (i := 10) (oi := ⟨some 15, Op.assign (Operand.tmp 78), 4, _, _, none⟩) (v := .bool ok) rfl (Or.inl ⟨by rfl, fun w hS => by obtain ⟨hS1, hS2, hS3, hS4⟩ := hS; clear hS1 hS4; go_simp⟩) hH_ ?_
  refine wpAnyH_done (by kernel_rfl) ?_ _
  refine hK15 _ _ ?_
  refine wp_seq_k fun K16 hK16 => ?_
  cases ok
  ·have hbad : takB root (n : Int) kind key ls = false := tak_bad (by omega) hml.out hm1 hm2 Hm.out hok.out
   have hEI := chkE_of (root := root) (key := key) hkm hbad
   have hE := Keep.mk hEI.1
   have hI := Keep.mk hEI.2
   clear hEI hbad
   have hr0 : Keep (0 < rows6.length ∨ rows6.length = 0) := ⟨by omega⟩
   refine rgn ?_
   refine VbF ?_
   refine VbT ?_
   refine WL.nil (hK16 _ _ ?_)
   refine wp_cond_true rfl ?_
   refine wp_seq_k fun K17 hK17 => ?_
   have BKd := Keep.mk (BK6.out.below (Below.refl w6.heap.size w6).drew)
   obtain ⟨vr, cvr⟩ : ∃ vr, w6.drew.cell? ⟨x, 0, none⟩ = some vr := by obtain ⟨vr, cs, h1, _⟩ := BKd.out.ex; exact ⟨vr, h1.c 0 rfl⟩
   have Rd : Keep (Blk w6.drew r 40 #[.int .i64 0, .string ByteArray.empty, .slice none 0 0]) := ⟨R6.out⟩
   have Bd : Keep (Below w.heap.size w w6.drew) := ⟨B6.out.drew⟩
   have hxr : Keep (x ≠ r) := ⟨fun e => absurd (BKd.out.typX.one (show Typ w6.drew x 40 from e ▸ Rd.out.typ)) (by decide)⟩
   refine wp_region_held_drew (S := fun wx => wx.cell? ⟨x, 0, none⟩ = some vr) (by kernel_rfl) (cvr) (fun hHeld => ?_)
   refine TkG (i := 1) (oi := ⟨some 82, Op.move (Operand.tmp 12), 58, _, _, none⟩) (v := .pointer (some ⟨x, 0, none⟩)) rfl hHeld ?_
   refine TkG (i := 2) (oi := ⟨some 83, Op.nilCheck (Operand.tmp 82), 0, _, _, none⟩) (v := .pointer (some ⟨x, 0, none⟩)) rfl hHeld ?_
   refine TkG (i := 3) (oi := ⟨some 84, Op.fieldAddr 61 (Operand.tmp 83) 0, 0, _, _, none⟩) (v := .pointer (some ⟨x, 0, none⟩)) rfl hHeld ?_
   refine TkG (i := 4) (oi := ⟨some 85, Op.load 59 (Operand.tmp 84), 59, _, _, none⟩) (v := vr) rfl hHeld ?_
   refine wpAnyH_ready (rs := [0]) (by kernel_rfl) (by simp) ?_
   refine AllReadyH.cons (o := ⟨some 81, Op.build 40 #[], 40, _, _, none⟩) rfl (fun K hK => ?_) AllReadyH.nil
   rw [if_pos (by rfl)]
   refine wp_bldG 40 #[] rfl #[.int .i64 0, .string ByteArray.empty, .slice none 0 0] (by simpa using bldC) ?_
   refine hK _ _ cvr fun hH_ => ?_
   clear hK
   simp only [Act.put, pqA, pqB, pqC]
   refine wpAnyH_ready (rs := [5]) (by kernel_rfl) (by simp) ?_
   refine AllReadyH.cons (o := ⟨none, Op.store 40 (Operand.tmp 8) (Operand.tmp 81), 0, _, _, none⟩) rfl (fun K hK => ?_) AllReadyH.nil
   rw [if_pos (by rfl)]
   refine wp_store_row 40 (.tmp 8) (.tmp 81) rfl r #[.int .i64 0, .string ByteArray.empty, .slice none 0 0] rfl rfl 40 #[.int .i64 0, .string ByteArray.empty, .slice none 0 0] Rd.out (Try.sizeC _ _ _) rfl (by simp [Value.oneCell']) ?_
   have R9 := Keep.mk (Rd.out.setRow #[.int .i64 0, .string ByteArray.empty, .slice none 0 0])
   have g_ : Grown w6.drew (w6.drew.setRow r #[.int .i64 0, .string ByteArray.empty, .slice none 0 0]) (fun k => k = r) := Grown.setRow _ r #[.int .i64 0, .string ByteArray.empty, .slice none 0 0] fun _ => rfl
   have cvr9 := g_.cell cvr hxr.out
   have B9 : Keep (Below w.heap.size w (w6.drew.setRow r #[.int .i64 0, .string ByteArray.empty, .slice none 0 0])) := ⟨below_setRow Bd.out gr.out _⟩
   generalize w6.drew.setRow r #[.int .i64 0, .string ByteArray.empty, .slice none 0 0] = w9 at *
   clear g_
   refine hK _ _ cvr9 fun hH_ => ?_
   clear hK
   simp only [Act.put, pqA, pqB, pqC]
   refine TkG (i := 6) (oi := ⟨some 9, Op.assign (Operand.const (Value.bool false)), 4, _, _, none⟩) (v := .bool false) rfl hH_ ?_
   refine TkG (i := 7) (oi := ⟨some 10, Op.assign (Operand.const (Value.int IntKind.i64 190)), 26, _, _, none⟩) (v := .int .i64 190) rfl hH_ ?_
   refine TkG (i := 8) (oi := ⟨some 11, Op.assign (Operand.tmp 85), 59, _, _, none⟩) (v := vr) rfl hH_ ?_
   refine wpAnyH_done (by kernel_rfl) ?_ _
   refine hK17 _ _ ?_
   refine wp_ret ?_
   try simp only [Exit.inBlock, Exit.then]
   refine bodyPost_ret (v := .tuple #[.agg #[.int .i64 0, .string ByteArray.empty, .slice none 0 0], .bool false, .int .i64 190, vr]) (results_cell_row4 Try.results39 _ _ r 40 _ (0, 0) _ _ _ _ rfl rfl rfl rfl R9.out Try.underlying40 rfl (Try.sizeC _ _ _)) rfl ⟨⟨0, ByteArray.empty, .slice none 0 0, []⟩, vr, ?_, .inl ⟨rfl, rfl⟩, B9.out, fun _ => rfl, fun y' h => (by rw [hI.out] at h; cases h), fun h => by rw [hE.out] at h; cases h⟩
   rw [hE.out, hI.out] <;> rfl
  ·refine rgn ?_
   refine VbT ?_
   refine VbF ?_
   refine WL.nil (hK16 _ _ ?_)
   refine wp_cond_false rfl ?_
   refine wp_skip ?_
   refine hK14 _ _ ?_
   refine rgn ?_
   refine VlS (.int .i64 (t : Int)) ?_
   refine VlS (.int .i64 ((t + 1 : Nat) : Int)) ?_
   refine VlS (.int .i64 ((t + 1 : Nat) : Int)) ?_
   refine WL.nil ?_
   refine ⟨⟨t + 1, fun zz => [.agg (bytesA 32 root.f), .int .i64 kind, .string key, .agg (wtA (n : Int) (.slice (some ⟨b, off, none⟩) m cap)), .pointer (some ⟨q, 0, none⟩), undef, undef, .pointer (some ⟨d, 0, none⟩), .pointer (some ⟨r, 0, none⟩), f 9, f 10, f 11, .pointer (some ⟨x, 0, none⟩), .bool true, .int .i64 ((t + 1 : Nat) : Int), .bool true, undef, .agg #[.slice none 0 0], .pointer (some ⟨x, 0, none⟩), .int .i64 kind, .bool true, .bool true, .bool false, undef, .pointer (some ⟨d, 0, none⟩), .int .i64 (n : Int), .bool false, .bool false, .pointer (some ⟨d, 1, none⟩), .slice (some ⟨b, off, none⟩) m cap, .int .i64 (m : Int), .bool false, .bool false, .bool false, .pointer (some ⟨d, 0, none⟩), .int .i64 (n : Int), .bool false, .pointer (some ⟨d, 1, none⟩), .slice (some ⟨b, off, none⟩) m cap, .int .i64 (m : Int), .bool false, .bool false, .bool false, undef, .pointer (some ⟨d, 0, none⟩), .int .i64 (n : Int), .bool false, undef, undef, undef, undef, undef, undef, undef, undef, undef, undef, undef, undef, undef, undef, undef, .int .i64 (t : Int), .pointer (some ⟨d, 1, none⟩), .slice (some ⟨b, off, none⟩) m cap, .int .i64 (m : Int), .bool true, .int .i64 (t : Int), .int .i64 ((t + 1 : Nat) : Int), .pointer (some ⟨x, 0, none⟩), .agg hr_, .pointer (some ⟨d, 0, none⟩), .int .i64 (n : Int), .pointer (some ⟨d, 1, none⟩), .slice (some ⟨b, off, none⟩) m cap, .int .i64 (t : Int), .pointer (some ⟨b, off + t * 5, none⟩), .agg (lvA y), .bool true, .bool true, .bool false, f 81, f 82, f 83, f 84, f 85, undef, undef, undef, undef, undef, undef, undef, undef, undef, undef, undef, undef, undef, undef, undef, undef, undef, undef, undef, undef, undef, undef, undef, undef, undef, undef, undef].getD zz undef, rfl, by omega, Q6.out, D6.out, R6.out, ?_, B6.out, fun i y' hi hy => ?_⟩, ?_⟩
   ·have h := BK6.out
    rw [HRw.out rfl] at h
    have e : (ls.take (t + 1)).flatMap (rwsOf n) = (ls.take t).flatMap (rwsOf n) ++ rwsOf n y := by
     rw [List.take_add_one, List.flatMap_append, Hy.out]; simp
    rw [e]; exact h
   ·by_cases e : i = t
    ·subst e; rw [Hy.out] at hy; injection hy with hy; subst hy; exact hok.out
    ·exact HI_.out i y' (by omega) hy
   ·simp only [intOf]; show m - (((t + 1 : Nat) : Int)).toNat < m - ((t : Int)).toNat; omega
 ·have htl' : ¬ (t : Int) < (m : Int) := by omega
  have Hall : Keep (∀ y ∈ ls, (okL (n : Int) y && rgtB n y root) = true) := ⟨fun y hy => by
   obtain ⟨i, hi, e⟩ := List.getElem_of_mem hy
   exact HI_.out i y (by rw [hml.out] at hi; omega) (by rw [List.getElem?_eq_getElem hi, e])⟩
  have BK7 : Keep (BkH w.heap.size wr x (ls.flatMap (rwsOf n))) := ⟨by have h := BK5.out; rw [List.take_of_length_le (by rw [hml.out]; omega)] at h; exact h⟩
  have Hr0 : Keep (0 < (ls.flatMap (rwsOf n)).length) := ⟨rows_pos hml.out hm1 Hall.out⟩
  have hsy := says_any (.slice (some ⟨b, off, none⟩) m cap) (n : Int) kind key ls wr ((LsV.below (.inr ⟨b, off, cap, by rw [hml.out], by rw [hml.out]; exact hmc, HLs.out⟩) B5.out).mono B5.out.size) (by rw [hml.out]; exact hm1) (by rw [hml.out]; exact hm2) (by have := Hn.out; omega) (fun y hy => by have h := Hall.out y hy; simp [okL] at h; omega)
  obtain ⟨sv, hsv⟩ : ∃ z, Keep (saysI (n : Int) ls kind key = z) := ⟨_, ⟨rfl⟩⟩
  rw [hsv.out] at hsy
  have HSY := Keep.mk hsy
  have HSV : Keep (sv = -1 ∨ sv = 0 ∨ sv = 1) := ⟨by rw [← hsv.out]; exact says_vals⟩
  have HTK : Keep (takB root (n : Int) kind key ls = decide (0 ≤ sv)) := ⟨by rw [← hsv.out]; exact tak_says (by omega) hml.out hm1 hm2 Hall.out⟩
  have HTE : Keep (tellB ls kind key = decide (sv = 1)) := ⟨by rw [← hsv.out]; exact (ans_says (by rw [hml.out]; exact hm1) (by rw [hml.out]; exact hm2)).2⟩
  clear hsy BK5 HI_
  refine wp_seq_k fun K18 hK18 => ?_
  refine wp_seq_k fun K19 hK19 => rgn ?_
  refine VlS (.int .i64 (t : Int)) ?_
  refine VlS (.pointer (some ⟨d, 1, none⟩)) ?_
  refine VlS (.slice (some ⟨b, off, none⟩) m cap) ?_
  refine VlS (.int .i64 (m : Int)) ?_
  refine VbF ?_
  refine WL.nil (hK19 _ _ ?_)
  refine wp_cond_false rfl ?_
  refine wp_exit ?_
  refine hK10 _ _ ?_
  refine wp_seq_k fun K20 hK20 => rgn ?_
  refine VlS (.int .i64 kind) ?_
  refine VlS (.string key) ?_
  refine WL.row (by kernel_rfl) 31 (.tmp 7) rfl d rfl 31 (wtA (n : Int) (.slice (some ⟨b, off, none⟩) m cap)) _ D5.out Try.underlying31 rfl (by rfl) ?_
  simp only [Act.put, pqA, pqB, pqC]
  clear w0_ w1_
  refine WL.callF (by kernel_rfl) 60 _ _ rfl Try.in60 #[.int .i64 kind, .string key, .agg (wtA (n : Int) (.slice (some ⟨b, off, none⟩) m cap))] (by simp [Act.eval]) ?_
  refine (HSY.out).mono ?_
  rintro e w6 ⟨rfl, k1⟩
  refine ⟨_, rfl, ?_⟩
  have BK8 := Keep.mk (BK7.out.below k1)
  have B8 : Keep (Below w.heap.size w w6) := ⟨B5.out.trans (k1.mono B5.out.size)⟩
  have Q8 := Keep.mk (Q5.out.below k1 Q5.out.lt)
  have D8 := Keep.mk (D5.out.below k1 D5.out.lt)
  have R8 := Keep.mk (R5.out.below k1 R5.out.lt)
  clear k1 Q5 D5 R5 BK7 B5 HSY
  simp only [Act.put, pqA, pqB, pqC]
  refine VlS (.int .i64 sv) ?_
  refine WL.nil (hK20 _ _ ?_)
  refine wp_seq_k fun K21 hK21 => ?_
  refine wp_seq_k fun K22 hK22 => ?_
  rcases HSV.out with e1 | e1 | e1
  ·subst e1
   have hEI := chkE_of (root := root) (n := (n : Int)) (key := key) (ls := ls) hkm (by rw [HTK.out]; rfl)
   have hE := Keep.mk hEI.1
   have hI := Keep.mk hEI.2
   clear hEI HTK HTE HSV hsv
   refine rgn ?_
   refine VlS (.int .i64 (-1)) ?_
   refine VbT ?_
   refine WL.nil (hK22 _ _ ?_)
   refine wp_cond_true rfl ?_
   refine wp_seq_k fun K23 hK23 => ?_
   have BKd := Keep.mk (BK8.out.below (Below.refl w6.heap.size w6).drew)
   obtain ⟨vr, us0, cvr, -, -⟩ := BKd.out.rsv Hr0.out
   have Rd : Keep (Blk w6.drew r 40 #[.int .i64 0, .string ByteArray.empty, .slice none 0 0]) := ⟨R8.out⟩
   have Bd : Keep (Below w.heap.size w w6.drew) := ⟨B8.out.drew⟩
   have hxr : Keep (x ≠ r) := ⟨fun e => absurd (BKd.out.typX.one (show Typ w6.drew x 40 from e ▸ Rd.out.typ)) (by decide)⟩
   refine wp_region_held_drew (S := fun wx => wx.cell? ⟨x, 0, none⟩ = some vr) (by kernel_rfl) (cvr) (fun hHeld => ?_)
   refine TkG (i := 1) (oi := ⟨some 93, Op.move (Operand.tmp 12), 58, _, _, none⟩) (v := .pointer (some ⟨x, 0, none⟩)) rfl hHeld ?_
   refine TkG (i := 2) (oi := ⟨some 94, Op.nilCheck (Operand.tmp 93), 0, _, _, none⟩) (v := .pointer (some ⟨x, 0, none⟩)) rfl hHeld ?_
   refine TkG (i := 3) (oi := ⟨some 95, Op.fieldAddr 61 (Operand.tmp 94) 0, 0, _, _, none⟩) (v := .pointer (some ⟨x, 0, none⟩)) rfl hHeld ?_
   refine TkG (i := 4) (oi := ⟨some 96, Op.load 59 (Operand.tmp 95), 59, _, _, none⟩) (v := vr) rfl hHeld ?_
   refine wpAnyH_ready (rs := [0]) (by kernel_rfl) (by simp) ?_
   refine AllReadyH.cons (o := ⟨some 92, Op.build 40 #[], 40, _, _, none⟩) rfl (fun K hK => ?_) AllReadyH.nil
   rw [if_pos (by rfl)]
   refine wp_bldG 40 #[] rfl #[.int .i64 0, .string ByteArray.empty, .slice none 0 0] (by simpa using bldC) ?_
   refine hK _ _ cvr fun hH_ => ?_
   clear hK
   simp only [Act.put, pqA, pqB, pqC]
   refine wpAnyH_ready (rs := [5]) (by kernel_rfl) (by simp) ?_
   refine AllReadyH.cons (o := ⟨none, Op.store 40 (Operand.tmp 8) (Operand.tmp 92), 0, _, _, none⟩) rfl (fun K hK => ?_) AllReadyH.nil
   rw [if_pos (by rfl)]
   refine wp_store_row 40 (.tmp 8) (.tmp 92) rfl r #[.int .i64 0, .string ByteArray.empty, .slice none 0 0] rfl rfl 40 #[.int .i64 0, .string ByteArray.empty, .slice none 0 0] Rd.out (Try.sizeC _ _ _) rfl (by simp [Value.oneCell']) ?_
   have R9 := Keep.mk (Rd.out.setRow #[.int .i64 0, .string ByteArray.empty, .slice none 0 0])
   have g_ : Grown w6.drew (w6.drew.setRow r #[.int .i64 0, .string ByteArray.empty, .slice none 0 0]) (fun k => k = r) := Grown.setRow _ r #[.int .i64 0, .string ByteArray.empty, .slice none 0 0] fun _ => rfl
   have cvr9 := g_.cell cvr hxr.out
   have BK9 := Keep.mk (BKd.out.setRow Rd.out #[.int .i64 0, .string ByteArray.empty, .slice none 0 0] (by decide) (by decide) (by decide))
   have B9 : Keep (Below w.heap.size w (w6.drew.setRow r #[.int .i64 0, .string ByteArray.empty, .slice none 0 0])) := ⟨below_setRow Bd.out gr.out _⟩
   generalize w6.drew.setRow r #[.int .i64 0, .string ByteArray.empty, .slice none 0 0] = w9 at *
   clear g_
   have RS9 : Keep (∃ us, RsV w9 vr us _) := ⟨by
    obtain ⟨vr', us', c', h1, _⟩ := BK9.out.rsv Hr0.out
    obtain rfl : vr' = vr := Option.some.inj (c'.symm.trans cvr9)
    exact ⟨us', h1⟩⟩
   refine hK _ _ cvr9 fun hH_ => ?_
   clear hK
   simp only [Act.put, pqA, pqB, pqC]
   refine TkG (i := 6) (oi := ⟨some 9, Op.assign (Operand.const (Value.bool false)), 4, _, _, none⟩) (v := .bool false) rfl hH_ ?_
   refine TkG (i := 7) (oi := ⟨some 10, Op.assign (Operand.const (Value.int IntKind.i64 190)), 26, _, _, none⟩) (v := .int .i64 190) rfl hH_ ?_
   refine TkG (i := 8) (oi := ⟨some 11, Op.assign (Operand.tmp 96), 59, _, _, none⟩) (v := vr) rfl hH_ ?_
   refine wpAnyH_done (by kernel_rfl) ?_ _
   refine hK23 _ _ ?_
   refine wp_ret ?_
   try simp only [Exit.inBlock, Exit.then]
   refine bodyPost_ret (v := .tuple #[.agg #[.int .i64 0, .string ByteArray.empty, .slice none 0 0], .bool false, .int .i64 190, vr]) (results_cell_row4 Try.results39 _ _ r 40 _ (0, 0) _ _ _ _ rfl rfl rfl rfl R9.out Try.underlying40 rfl (Try.sizeC _ _ _)) rfl ⟨⟨0, ByteArray.empty, .slice none 0 0, []⟩, vr, ?_, .inl ⟨rfl, rfl⟩, B9.out, fun _ => rfl, fun y' h => (by rw [hI.out] at h; cases h), fun h => by rw [hE.out] at h; cases h⟩
   rw [hE.out, hI.out] <;> rfl
  ·subst e1
   have hEI := chkE_ok (root := root) (n := (n : Int)) (key := key) (ls := ls) hkm (by rw [HTK.out]; rfl)
   have hE := Keep.mk hEI.1
   have hI : Keep (chkI root (n : Int) kind key ls = false) := ⟨by rw [hEI.2, HTE.out]; rfl⟩
   clear hEI HTK HTE HSV hsv
   refine rgn ?_
   refine VlS (.int .i64 0) ?_
   refine VbF ?_
   refine WL.nil (hK22 _ _ ?_)
   refine wp_cond_false rfl ?_
   refine wp_skip ?_
   refine hK21 _ _ ?_
   refine wp_seq_k fun K24 hK24 => ?_
   refine wp_seq_k fun K25 hK25 => rgn ?_
   refine VlS (.int .i64 0) ?_
   refine VbT ?_
   refine WL.nil (hK25 _ _ ?_)
   refine wp_cond_true rfl ?_
   refine wp_seq_k fun K26 hK26 => ?_
   have BKd := Keep.mk (BK8.out.below (Below.refl w6.heap.size w6).drew)
   obtain ⟨vr, us0, cvr, -, -⟩ := BKd.out.rsv Hr0.out
   have Rd : Keep (Blk w6.drew r 40 #[.int .i64 0, .string ByteArray.empty, .slice none 0 0]) := ⟨R8.out⟩
   have Bd : Keep (Below w.heap.size w w6.drew) := ⟨B8.out.drew⟩
   have hxr : Keep (x ≠ r) := ⟨fun e => absurd (BKd.out.typX.one (show Typ w6.drew x 40 from e ▸ Rd.out.typ)) (by decide)⟩
   refine wp_region_held_drew (S := fun wx => wx.cell? ⟨x, 0, none⟩ = some vr) (by kernel_rfl) (cvr) (fun hHeld => ?_)
   refine TkG (i := 1) (oi := ⟨some 100, Op.move (Operand.tmp 12), 58, _, _, none⟩) (v := .pointer (some ⟨x, 0, none⟩)) rfl hHeld ?_
   refine TkG (i := 2) (oi := ⟨some 101, Op.nilCheck (Operand.tmp 100), 0, _, _, none⟩) (v := .pointer (some ⟨x, 0, none⟩)) rfl hHeld ?_
   refine TkG (i := 3) (oi := ⟨some 102, Op.fieldAddr 61 (Operand.tmp 101) 0, 0, _, _, none⟩) (v := .pointer (some ⟨x, 0, none⟩)) rfl hHeld ?_
   refine TkG (i := 4) (oi := ⟨some 103, Op.load 59 (Operand.tmp 102), 59, _, _, none⟩) (v := vr) rfl hHeld ?_
   refine wpAnyH_ready (rs := [0]) (by kernel_rfl) (by simp) ?_
   refine AllReadyH.cons (o := ⟨some 99, Op.build 40 #[], 40, _, _, none⟩) rfl (fun K hK => ?_) AllReadyH.nil
   rw [if_pos (by rfl)]
   refine wp_bldG 40 #[] rfl #[.int .i64 0, .string ByteArray.empty, .slice none 0 0] (by simpa using bldC) ?_
   refine hK _ _ cvr fun hH_ => ?_
   clear hK
   simp only [Act.put, pqA, pqB, pqC]
   refine wpAnyH_ready (rs := [5]) (by kernel_rfl) (by simp) ?_
   refine AllReadyH.cons (o := ⟨none, Op.store 40 (Operand.tmp 8) (Operand.tmp 99), 0, _, _, none⟩) rfl (fun K hK => ?_) AllReadyH.nil
   rw [if_pos (by rfl)]
   refine wp_store_row 40 (.tmp 8) (.tmp 99) rfl r #[.int .i64 0, .string ByteArray.empty, .slice none 0 0] rfl rfl 40 #[.int .i64 0, .string ByteArray.empty, .slice none 0 0] Rd.out (Try.sizeC _ _ _) rfl (by simp [Value.oneCell']) ?_
   have R9 := Keep.mk (Rd.out.setRow #[.int .i64 0, .string ByteArray.empty, .slice none 0 0])
   have g_ : Grown w6.drew (w6.drew.setRow r #[.int .i64 0, .string ByteArray.empty, .slice none 0 0]) (fun k => k = r) := Grown.setRow _ r #[.int .i64 0, .string ByteArray.empty, .slice none 0 0] fun _ => rfl
   have cvr9 := g_.cell cvr hxr.out
   have BK9 := Keep.mk (BKd.out.setRow Rd.out #[.int .i64 0, .string ByteArray.empty, .slice none 0 0] (by decide) (by decide) (by decide))
   have B9 : Keep (Below w.heap.size w (w6.drew.setRow r #[.int .i64 0, .string ByteArray.empty, .slice none 0 0])) := ⟨below_setRow Bd.out gr.out _⟩
   generalize w6.drew.setRow r #[.int .i64 0, .string ByteArray.empty, .slice none 0 0] = w9 at *
   clear g_
   have RS9 : Keep (∃ us, RsV w9 vr us _) := ⟨by
    obtain ⟨vr', us', c', h1, _⟩ := BK9.out.rsv Hr0.out
    obtain rfl : vr' = vr := Option.some.inj (c'.symm.trans cvr9)
    exact ⟨us', h1⟩⟩
   refine hK _ _ cvr9 fun hH_ => ?_
   clear hK
   simp only [Act.put, pqA, pqB, pqC]
   refine TkG (i := 6) (oi := ⟨some 9, Op.assign (Operand.const (Value.bool false)), 4, _, _, none⟩) (v := .bool false) rfl hH_ ?_
   refine TkG (i := 7) (oi := ⟨some 10, Op.assign (Operand.const (Value.int IntKind.i64 0)), 26, _, _, none⟩) (v := .int .i64 0) rfl hH_ ?_
   refine TkG (i := 8) (oi := ⟨some 11, Op.assign (Operand.tmp 103), 59, _, _, none⟩) (v := vr) rfl hH_ ?_
   refine wpAnyH_done (by kernel_rfl) ?_ _
   refine hK26 _ _ ?_
   refine wp_ret ?_
   try simp only [Exit.inBlock, Exit.then]
   refine bodyPost_ret (v := .tuple #[.agg #[.int .i64 0, .string ByteArray.empty, .slice none 0 0], .bool false, .int .i64 0, vr]) (results_cell_row4 Try.results39 _ _ r 40 _ (0, 0) _ _ _ _ rfl rfl rfl rfl R9.out Try.underlying40 rfl (Try.sizeC _ _ _)) rfl ⟨⟨0, ByteArray.empty, .slice none 0 0, []⟩, vr, ?_, .inl ⟨rfl, rfl⟩, B9.out, fun _ => rfl, fun y' h => (by rw [hI.out] at h; cases h), fun _ => by unfold wlkR; rw [if_neg (by omega), Int.toNat_natCast]; exact RS9.out⟩
   rw [hE.out, hI.out] <;> rfl
  ·subst e1
   have hEI := chkE_ok (root := root) (n := (n : Int)) (key := key) (ls := ls) hkm (by rw [HTK.out]; rfl)
   have hE := Keep.mk hEI.1
   have hI : Keep (chkI root (n : Int) kind key ls = true) := ⟨by rw [hEI.2, HTE.out]; rfl⟩
   obtain ⟨y, hly⟩ : ∃ y, Keep (ls = [y]) := by
    have h := HTE.out
    unfold tellB at h
    split at h
    ·exact ⟨_, ⟨rfl⟩⟩
    ·simp at h
   obtain rfl : m = 1 := by have := hml.out; rw [hly.out] at this; simpa using this.symm
   clear hEI HTK HTE HSV hsv
   refine rgn ?_
   refine VlS (.int .i64 1) ?_
   refine VbF ?_
   refine WL.nil (hK22 _ _ ?_)
   refine wp_cond_false rfl ?_
   refine wp_skip ?_
   refine hK21 _ _ ?_
   refine wp_seq_k fun K27 hK27 => ?_
   refine wp_seq_k fun K28 hK28 => rgn ?_
   refine VlS (.int .i64 1) ?_
   refine VbF ?_
   refine WL.nil (hK28 _ _ ?_)
   refine wp_cond_false rfl ?_
   refine wp_skip ?_
   refine hK27 _ _ ?_
   refine wp_seq_k fun K29 hK29 => ?_
   have BKd := Keep.mk (BK8.out.below (Below.refl w6.heap.size w6).drew)
   obtain ⟨vr, us0, cvr, -, -⟩ := BKd.out.rsv Hr0.out
   have Rd : Keep (Blk w6.drew r 40 #[.int .i64 0, .string ByteArray.empty, .slice none 0 0]) := ⟨R8.out⟩
   have Dd : Keep (Blk w6.drew d 31 (wtA (n : Int) (.slice (some ⟨b, off, none⟩) 1 cap))) := ⟨D8.out⟩
   have Bd : Keep (Below w.heap.size w w6.drew) := ⟨B8.out.drew⟩
   have hxr : Keep (x ≠ r) := ⟨fun e => absurd (BKd.out.typX.one (show Typ w6.drew x 40 from e ▸ Rd.out.typ)) (by decide)⟩
   have HLy : Keep (∀ wx : World, Below w.heap.size w wx → wx.rangeAt b (off + 1) (cvA y.c).toList ∧ RowAt wx y.c.v y.c.l) := ⟨fun wx hb => by
    have h := HLs.out.below hb
    rw [hly.out] at h
    have h2 := h.at_ 0 y rfl
    exact ⟨rng_mid (by simpa using h2), (h.lf y (by simp)).row⟩⟩
   have HYo : Keep ((cvA y.c).all (·.oneCell') = true) := ⟨by
    obtain ⟨a_, m_, e_⟩ := row_form (HLy.out w (Below.refl _ _)).2
    unfold cvA; rw [e_]; simp [Value.oneCell']⟩
   refine wp_region_held_drew (S := fun wx => wx.cell? ⟨x, 0, none⟩ = some vr ∧ wx.cell? ⟨d, 1, none⟩ = some (.slice (some ⟨b, off, none⟩) 1 cap) ∧ wx.rangeAt b (off + 1) (cvA y.c).toList) (by kernel_rfl) (⟨cvr, Dd.out.c 1 rfl, (HLy.out _ Bd.out).1⟩) (fun hHeld => ?_)
   refine tkS (i := 0) (oi := ⟨some 104, Op.fieldAddr 31 (Operand.tmp 7) 1, 0, _, _, none⟩) (v := .pointer (some ⟨d, 1, none⟩)) rfl (Or.inl ⟨by rfl, fun w hS => by obtain ⟨hS1, hS2, hS3⟩ := hS; clear hS3; go_simp⟩) hHeld ?_
   refine tkS (i := 5) (oi := ⟨some 109, Op.move (Operand.tmp 12), 58, _, _, none⟩) (v := .pointer (some ⟨x, 0, none⟩)) rfl (Or.inl ⟨by rfl, fun w hS => by obtain ⟨hS1, hS2, hS3⟩ := hS; clear hS3; go_simp⟩) hHeld ?_
   refine tkS (i := 1) (oi := ⟨some 105, Op.load 29 (Operand.tmp 104), 29, _, _, none⟩) (v := .slice (some ⟨b, off, none⟩) 1 cap) rfl (Or.inl ⟨by rfl, fun w hS => by obtain ⟨hS1, hS2, hS3⟩ := hS; clear hS3; go_simp⟩) hHeld ?_
   refine tkS (i := 6) (oi := ⟨some 110, Op.nilCheck (Operand.tmp 109), 0, _, _, none⟩) (v := .pointer (some ⟨x, 0, none⟩)) rfl (Or.inl ⟨by rfl, fun w hS => by obtain ⟨hS1, hS2, hS3⟩ := hS; clear hS3; go_simp⟩) hHeld ?_
   refine tkS (i := 2) (oi := ⟨some 106, Op.indexAddr 29 (Operand.tmp 105) (Operand.const (Value.int IntKind.i64 0)), 0, _, _, none⟩) (v := .pointer (some ⟨b, off, none⟩)) rfl (Or.inl ⟨by rfl, fun w hS => by obtain ⟨hS1, hS2, hS3⟩ := hS; clear hS3; go_simp⟩) hHeld ?_
   refine tkS (i := 7) (oi := ⟨some 111, Op.fieldAddr 61 (Operand.tmp 110) 0, 0, _, _, none⟩) (v := .pointer (some ⟨x, 0, none⟩)) rfl (Or.inl ⟨by rfl, fun w hS => by obtain ⟨hS1, hS2, hS3⟩ := hS; clear hS3; go_simp⟩) hHeld ?_
   refine tkS (i := 3) (oi := ⟨some 107, Op.fieldAddr 69 (Operand.tmp 106) 1, 0, _, _, none⟩) (v := .pointer (some ⟨b, off + 1, none⟩)) rfl (Or.inl ⟨by rfl, fun w hS => by obtain ⟨hS1, hS2, hS3⟩ := hS; clear hS3; go_simp⟩) hHeld ?_
   refine tkS (i := 8) (oi := ⟨some 112, Op.load 59 (Operand.tmp 111), 59, _, _, none⟩) (v := vr) rfl (Or.inl ⟨by rfl, fun w hS => by obtain ⟨hS1, hS2, hS3⟩ := hS; clear hS3; go_simp⟩) hHeld ?_
   refine tkS (i := 4) (oi := ⟨some 108, Op.load 40 (Operand.tmp 107), 40, _, _, none⟩) (v := .agg (cvA y.c)) rfl (yieldsIf_ld (by rfl) (Operand.tmp 107) 40 rfl b (off + 1) rfl (cvA y.c) _ Try.underlying40 rfl (Try.sizeC _ _ _) fun w hS => hS.2.2) hHeld ?_
   refine wpAnyH_ready (rs := [9]) (by kernel_rfl) (by simp) ?_
   refine AllReadyH.cons (o := ⟨none, Op.store 40 (Operand.tmp 8) (Operand.tmp 108), 0, _, _, none⟩) rfl (fun K hK => ?_) AllReadyH.nil
   rw [if_pos (by rfl)]
   refine wp_store_row 40 (.tmp 8) (.tmp 108) rfl r (cvA y.c) rfl rfl 40 #[.int .i64 0, .string ByteArray.empty, .slice none 0 0] Rd.out (Try.sizeC _ _ _) rfl HYo.out ?_
   have R9 := Keep.mk (Rd.out.setRow (cvA y.c))
   have g_ : Grown w6.drew (w6.drew.setRow r (cvA y.c)) (fun k => k = r) := Grown.setRow _ r (cvA y.c) fun _ => rfl
   have cvr9 := g_.cell cvr hxr.out
   have D9 := Keep.mk (Dd.out.setRow_ne (blk_ne Dd.out Rd.out (by decide)) (cvA y.c))
   have BK9 := Keep.mk (BKd.out.setRow Rd.out (cvA y.c) (by decide) (by decide) (by decide))
   have B9 : Keep (Below w.heap.size w (w6.drew.setRow r (cvA y.c))) := ⟨below_setRow Bd.out gr.out _⟩
   generalize w6.drew.setRow r (cvA y.c) = w9 at *
   clear g_
   have RS9 : Keep (∃ us, RsV w9 vr us (ls.flatMap (rwsOf n))) := ⟨by
    obtain ⟨vr', us', c', h1, _⟩ := BK9.out.rsv Hr0.out
    obtain rfl : vr' = vr := Option.some.inj (c'.symm.trans cvr9)
    exact ⟨us', h1⟩⟩
   refine hK _ _ ⟨cvr9, D9.out.c 1 rfl, (HLy.out _ B9.out).1⟩ fun hH_ => ?_
   clear hK
   simp only [Act.put, pqA, pqB, pqC]
   refine tkS (i := 10) (oi := ⟨some 9, Op.assign (Operand.const (Value.bool true)), 4, _, _, none⟩) (v := .bool true) rfl (Or.inl ⟨by rfl, fun w hS => by obtain ⟨hS1, hS2, hS3⟩ := hS; clear hS3; go_simp⟩) hH_ ?_
   refine tkS (i := 11) (oi := ⟨some 10, Op.assign (Operand.const (Value.int IntKind.i64 0)), 26, _, _, none⟩) (v := .int .i64 0) rfl (Or.inl ⟨by rfl, fun w hS => by obtain ⟨hS1, hS2, hS3⟩ := hS; clear hS3; go_simp⟩) hH_ ?_
   refine tkS (i := 12) (oi := ⟨some 11, Op.assign (Operand.tmp 112), 59, _, _, none⟩) (v := vr) rfl (Or.inl ⟨by rfl, fun w hS => by obtain ⟨hS1, hS2, hS3⟩ := hS; clear hS3; go_simp⟩) hH_ ?_
   refine wpAnyH_done (by kernel_rfl) ?_ _
   refine hK29 _ _ ?_
   refine wp_ret ?_
   try simp only [Exit.inBlock, Exit.then]
   refine bodyPost_ret (v := .tuple #[.agg (cvA y.c), .bool true, .int .i64 0, vr]) (results_cell_row4 Try.results39 _ _ r 40 _ (0, 0) _ _ _ _ rfl rfl rfl rfl R9.out Try.underlying40 rfl (Try.sizeC _ _ _)) rfl ⟨y.c, vr, ?_, (HLy.out _ B9.out).2, B9.out, fun h => (by rw [hI.out] at h; cases h), fun y' _ hy => by rw [hly.out] at hy; injection hy with hy; rw [hy], fun _ => by unfold wlkR; rw [if_neg (by omega), Int.toNat_natCast]; exact RS9.out⟩
   rw [hE.out, hI.out] <;> rfl

end Go.Proofs.Ytjklmkeedhgncaa
