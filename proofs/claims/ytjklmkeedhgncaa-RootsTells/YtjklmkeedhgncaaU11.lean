import Derived.Test.YtjklmkeedhgncaaU10
import Derived.Deep.RegionHeld3
namespace Go.Proofs.Ytjklmkeedhgncaa
open Go.RowKit
set_option linter.unusedSimpArgs false
set_option linter.unusedVariables false
theorem eqB {a b : Array Value} {x y : Hs} {c : Bool} (ha : a = bytesA 32 x.f) (hb : b = bytesA 32 y.f) (hc : decide (x = y) = c) (w : World) : (Op.equalIn 10000 25 (.agg a) (.agg b)).run Try.prog w = .ok c w := by
  rw [ha, hb, run_equal_arr2, all_eq_iff, hc]

theorem Try.in37 (w : World) (vs : Array Value) : (callFunc 37 vs).run Try.prog w = .ok (.enter 37 vs) w := by kernel_rfl
def rgtB (n : Nat) (x : LV) (root : Hs) : Bool := match climbL n x.num.toNat (lfH x) x.ps with
  | some (t, _) => decide (shaH (RtP.topR le8 n t) = root)
  | none => false
def rtB (n : Int) (ls : List LV) (root : Hs) : Bool := if n = 0 then decide (shaH (2 :: (le8 0 ++ [])) = root) else ls.all fun x => rgtB n.toNat x root
def SmL (ls : List LV) : Prop := ∀ x ∈ ls, (x.c.s.size ≤ 140737488351232 ∧ x.c.l.length ≤ 140737488351232) ∧ x.ps.length ≤ 4398046511104
set_option maxRecDepth 8000 in
theorem rt_zero_t (la : Option Addr) (m cap : Nat) (hr h0 : Array Value) (root x0 : Hs) (w : World) (hre : Keep (hr = bytesA 32 root.f)) (h0e : Keep (h0 = bytesA 32 x0.f)) (hx0 : Keep (x0 = shaH (2 :: (le8 0 ++ [])))) (HE : Keep (decide (x0 = root) = true)) :
    Calls Try.prog 37 #[.agg (wtA 0 (.slice la m cap)), .agg hr] w fun e w' => e = .returned (.bool true) ∧ Below w.heap.size w w' := by
  go_enter Try.func37, Try.ntmps37
  refine wp_seq_k fun K1 hK1 => ?_
  refine wp_region_list (WL.out ?_)
  refine WL.box (by kernel_rfl) 31 (.tmp 0) rfl (wtA 0 (.slice la m cap)) rfl ?_
  have W1 := Keep.mk (Blk.new w 31 (wtA 0 (.slice la m cap)))
  have b_ := below_new w (.cells (wtA 0 (.slice la m cap)) 31)
  change WL _ _ _ _ _ (w.alloc (.cells (wtA 0 (.slice la m cap)) 31))
  generalize w.alloc (.cells (wtA 0 (.slice la m cap)) 31) = w1 at *
  obtain ⟨d, hd0⟩ : ∃ z, Keep (z = w.heap.size) := ⟨_, ⟨rfl⟩⟩
  rw [← hd0.out] at W1 ⊢
  have B1 : Keep (Below w.heap.size w w1) := ⟨b_⟩
  have gd : Keep (w.heap.size ≤ d) := ⟨by rw [hd0.out]; exact Nat.le_refl _⟩
  clear b_
  have w0_ : w1.cell? ⟨d, 0, none⟩ = some (.int .i64 0) := W1.out.c 0 rfl
  have w1_ : w1.cell? ⟨d, 1, none⟩ = some (.slice la m cap) := W1.out.c 1 rfl
  simp only [Act.put, List.setIfInBounds_toArray, List.set_cons_zero, List.set_cons_succ]
  refine WL.box (by kernel_rfl) 25 (.tmp 1) rfl hr rfl ?_
  have G2 := Keep.mk (Blk.new w1 25 hr)
  have b_ := below_new w1 (.cells hr 25)
  change WL _ _ _ _ _ (w1.alloc (.cells hr 25))
  generalize w1.alloc (.cells hr 25) = w2 at *
  obtain ⟨g, hg0⟩ : ∃ z, Keep (z = w1.heap.size) := ⟨_, ⟨rfl⟩⟩
  rw [← hg0.out] at G2 ⊢
  have W2 := Keep.mk (W1.out.below b_ W1.out.lt)
  have B2 : Keep (Below w.heap.size w w2) := ⟨B1.out.trans (b_.mono B1.out.size)⟩
  have gg : Keep (w.heap.size ≤ g) := ⟨by rw [hg0.out]; exact B1.out.size⟩
  clear b_
  clear w0_ w1_
  have w0_ : w2.cell? ⟨d, 0, none⟩ = some (.int .i64 0) := W2.out.c 0 rfl
  have w1_ : w2.cell? ⟨d, 1, none⟩ = some (.slice la m cap) := W2.out.c 1 rfl
  simp only [Act.put, List.setIfInBounds_toArray, List.set_cons_zero, List.set_cons_succ]
  refine WL.val (by kernel_rfl) (.bool false) (by go_simp) ?_
  simp only [Act.put, List.setIfInBounds_toArray, List.set_cons_zero, List.set_cons_succ]
  refine WL.nil ?_
  refine hK1 _ _ ?_
  refine wp_seq_k fun K2 hK2 => ?_
  refine wp_seq_k fun K3 hK3 => ?_
  refine wp_region_list (WL.out ?_)
  refine WL.val (by kernel_rfl) (.pointer (some ⟨d, 0, none⟩)) (by go_simp) ?_
  simp only [Act.put, List.setIfInBounds_toArray, List.set_cons_zero, List.set_cons_succ]
  refine WL.val (by kernel_rfl) (.int .i64 0) (by go_simp) ?_
  simp only [Act.put, List.setIfInBounds_toArray, List.set_cons_zero, List.set_cons_succ]
  refine WL.val (by kernel_rfl) (.bool true) (by go_simp) ?_
  simp only [Act.put, List.setIfInBounds_toArray, List.set_cons_zero, List.set_cons_succ]
  refine WL.nil ?_
  refine hK3 _ _ ?_
  refine wp_cond_true rfl ?_
  refine wp_seq_k fun K4 hK4 => ?_
  have Gd : Keep (Blk w2.drew g 25 hr) := ⟨G2.out⟩
  have Bd : Keep (Below w.heap.size w w2.drew) := ⟨B2.out.drew⟩
  clear G2 B2 w0_ w1_
  refine wp_region_held_drew (S := fun wx => wx.rangeAt g 0 hr.toList) (by kernel_rfl) (blk_range Gd.out) (fun hHeld => ?_)
  refine wpAnyH_take (i := 1) (oi := ⟨some 13, Op.load 25 (Operand.tmp 3), 25, _, _, none⟩) (v := .agg hr) rfl (by kernel_rfl) (by kernel_rfl) (by kernel_rfl) (fun _ _ _ h => h) (yieldsIf_ld (by rfl) (Operand.tmp 3) 25 rfl g 0 rfl hr _ Try.underlying25 rfl (by rw [hre.out]; exact Try.size25B _) fun w hS => hS) hHeld ?_
  simp only [Act.put, List.setIfInBounds_toArray, List.set_cons_zero, List.set_cons_succ]
  refine wpAnyH_ready (rs := [0]) (by kernel_rfl) (by simp) ?_
  refine AllReadyH.cons (o := ⟨some 12, Op.call { callee := Callee.value (Operand.func 25), args := #[Operand.const (Value.int IntKind.i64 0), Operand.const (Value.slice none 0 0)], argTypes := #[3, 59] }, 25, _, _, none⟩) rfl (fun K hK => ?_) AllReadyH.nil
  rw [if_pos (by rfl)]
  refine wp_callF 25 _ _ rfl Try.in25 #[.int .i64 ((0 : Nat) : Int), .slice none 0 0] (by simp [Act.eval]) (fun vz wz => vz = .agg h0 ∧ Below w2.drew.heap.size w2.drew wz) ?_ ?_
  · refine (proot_any 0 (.slice none 0 0) [] [] w2.drew ⟨rfl, fun j u l h _ => by simp at h, .inl ⟨rfl, rfl⟩⟩ (by simp) (by simp)).mono ?_
    rintro e wz ⟨rfl, k1⟩
    exact ⟨_, rfl, by rw [h0e.out, hx0.out, ← encH_arr, ← shaH_arr]; rfl, k1⟩
  rintro vz w3 ⟨rfl, k1⟩
  have G3 := Keep.mk (Gd.out.below k1 Gd.out.lt)
  have B3 : Keep (Below w.heap.size w w3) := ⟨Bd.out.trans (k1.mono Bd.out.size)⟩
  clear k1 Gd Bd
  refine hK _ _ (blk_range G3.out) fun hH1 => ?_
  clear hK
  simp only [Act.put, List.setIfInBounds_toArray, List.set_cons_zero, List.set_cons_succ]
  refine wpAnyH_take (i := 2) (oi := ⟨some 14, Op.binOp BinOp.eql 25 (Operand.tmp 12) (Operand.tmp 13) 25, 4, _, _, none⟩) (v := .bool true) rfl (by kernel_rfl) (by kernel_rfl) (by kernel_rfl) (fun _ _ _ h => h) (Or.inl ⟨by rfl, fun w hS => by have hq_ := eqB h0e.out hre.out HE.out w; clear hS; go_simp⟩) hH1 ?_
  simp only [Act.put, List.setIfInBounds_toArray, List.set_cons_zero, List.set_cons_succ]
  refine wpAnyH_take (i := 3) (oi := ⟨some 4, Op.assign (Operand.tmp 14), 4, _, _, none⟩) (v := .bool true) rfl (by kernel_rfl) (by kernel_rfl) (by kernel_rfl) (fun _ _ _ h => h) (Or.inl ⟨by rfl, fun w hS => by go_simp⟩) hH1 ?_
  simp only [Act.put, List.setIfInBounds_toArray, List.set_cons_zero, List.set_cons_succ]
  refine wpAnyH_done (by kernel_rfl) ?_ _
  refine hK4 _ _ ?_
  refine wp_ret ?_
  go_ret
  exact ⟨rfl, B3.out⟩
set_option maxRecDepth 8000 in
theorem rt_zero_f (la : Option Addr) (m cap : Nat) (hr h0 : Array Value) (root x0 : Hs) (w : World) (hre : Keep (hr = bytesA 32 root.f)) (h0e : Keep (h0 = bytesA 32 x0.f)) (hx0 : Keep (x0 = shaH (2 :: (le8 0 ++ [])))) (HE : Keep (decide (x0 = root) = false)) :
    Calls Try.prog 37 #[.agg (wtA 0 (.slice la m cap)), .agg hr] w fun e w' => e = .returned (.bool false) ∧ Below w.heap.size w w' := by
  go_enter Try.func37, Try.ntmps37
  refine wp_seq_k fun K1 hK1 => ?_
  refine wp_region_list (WL.out ?_)
  refine WL.box (by kernel_rfl) 31 (.tmp 0) rfl (wtA 0 (.slice la m cap)) rfl ?_
  have W1 := Keep.mk (Blk.new w 31 (wtA 0 (.slice la m cap)))
  have b_ := below_new w (.cells (wtA 0 (.slice la m cap)) 31)
  change WL _ _ _ _ _ (w.alloc (.cells (wtA 0 (.slice la m cap)) 31))
  generalize w.alloc (.cells (wtA 0 (.slice la m cap)) 31) = w1 at *
  obtain ⟨d, hd0⟩ : ∃ z, Keep (z = w.heap.size) := ⟨_, ⟨rfl⟩⟩
  rw [← hd0.out] at W1 ⊢
  have B1 : Keep (Below w.heap.size w w1) := ⟨b_⟩
  have gd : Keep (w.heap.size ≤ d) := ⟨by rw [hd0.out]; exact Nat.le_refl _⟩
  clear b_
  have w0_ : w1.cell? ⟨d, 0, none⟩ = some (.int .i64 0) := W1.out.c 0 rfl
  have w1_ : w1.cell? ⟨d, 1, none⟩ = some (.slice la m cap) := W1.out.c 1 rfl
  simp only [Act.put, List.setIfInBounds_toArray, List.set_cons_zero, List.set_cons_succ]
  refine WL.box (by kernel_rfl) 25 (.tmp 1) rfl hr rfl ?_
  have G2 := Keep.mk (Blk.new w1 25 hr)
  have b_ := below_new w1 (.cells hr 25)
  change WL _ _ _ _ _ (w1.alloc (.cells hr 25))
  generalize w1.alloc (.cells hr 25) = w2 at *
  obtain ⟨g, hg0⟩ : ∃ z, Keep (z = w1.heap.size) := ⟨_, ⟨rfl⟩⟩
  rw [← hg0.out] at G2 ⊢
  have W2 := Keep.mk (W1.out.below b_ W1.out.lt)
  have B2 : Keep (Below w.heap.size w w2) := ⟨B1.out.trans (b_.mono B1.out.size)⟩
  have gg : Keep (w.heap.size ≤ g) := ⟨by rw [hg0.out]; exact B1.out.size⟩
  clear b_
  clear w0_ w1_
  have w0_ : w2.cell? ⟨d, 0, none⟩ = some (.int .i64 0) := W2.out.c 0 rfl
  have w1_ : w2.cell? ⟨d, 1, none⟩ = some (.slice la m cap) := W2.out.c 1 rfl
  simp only [Act.put, List.setIfInBounds_toArray, List.set_cons_zero, List.set_cons_succ]
  refine WL.val (by kernel_rfl) (.bool false) (by go_simp) ?_
  simp only [Act.put, List.setIfInBounds_toArray, List.set_cons_zero, List.set_cons_succ]
  refine WL.nil ?_
  refine hK1 _ _ ?_
  refine wp_seq_k fun K2 hK2 => ?_
  refine wp_seq_k fun K3 hK3 => ?_
  refine wp_region_list (WL.out ?_)
  refine WL.val (by kernel_rfl) (.pointer (some ⟨d, 0, none⟩)) (by go_simp) ?_
  simp only [Act.put, List.setIfInBounds_toArray, List.set_cons_zero, List.set_cons_succ]
  refine WL.val (by kernel_rfl) (.int .i64 0) (by go_simp) ?_
  simp only [Act.put, List.setIfInBounds_toArray, List.set_cons_zero, List.set_cons_succ]
  refine WL.val (by kernel_rfl) (.bool true) (by go_simp) ?_
  simp only [Act.put, List.setIfInBounds_toArray, List.set_cons_zero, List.set_cons_succ]
  refine WL.nil ?_
  refine hK3 _ _ ?_
  refine wp_cond_true rfl ?_
  refine wp_seq_k fun K4 hK4 => ?_
  have Gd : Keep (Blk w2.drew g 25 hr) := ⟨G2.out⟩
  have Bd : Keep (Below w.heap.size w w2.drew) := ⟨B2.out.drew⟩
  clear G2 B2 w0_ w1_
  refine wp_region_held_drew (S := fun wx => wx.rangeAt g 0 hr.toList) (by kernel_rfl) (blk_range Gd.out) (fun hHeld => ?_)
  refine wpAnyH_take (i := 1) (oi := ⟨some 13, Op.load 25 (Operand.tmp 3), 25, _, _, none⟩) (v := .agg hr) rfl (by kernel_rfl) (by kernel_rfl) (by kernel_rfl) (fun _ _ _ h => h) (yieldsIf_ld (by rfl) (Operand.tmp 3) 25 rfl g 0 rfl hr _ Try.underlying25 rfl (by rw [hre.out]; exact Try.size25B _) fun w hS => hS) hHeld ?_
  simp only [Act.put, List.setIfInBounds_toArray, List.set_cons_zero, List.set_cons_succ]
  refine wpAnyH_ready (rs := [0]) (by kernel_rfl) (by simp) ?_
  refine AllReadyH.cons (o := ⟨some 12, Op.call { callee := Callee.value (Operand.func 25), args := #[Operand.const (Value.int IntKind.i64 0), Operand.const (Value.slice none 0 0)], argTypes := #[3, 59] }, 25, _, _, none⟩) rfl (fun K hK => ?_) AllReadyH.nil
  rw [if_pos (by rfl)]
  refine wp_callF 25 _ _ rfl Try.in25 #[.int .i64 ((0 : Nat) : Int), .slice none 0 0] (by simp [Act.eval]) (fun vz wz => vz = .agg h0 ∧ Below w2.drew.heap.size w2.drew wz) ?_ ?_
  · refine (proot_any 0 (.slice none 0 0) [] [] w2.drew ⟨rfl, fun j u l h _ => by simp at h, .inl ⟨rfl, rfl⟩⟩ (by simp) (by simp)).mono ?_
    rintro e wz ⟨rfl, k1⟩
    exact ⟨_, rfl, by rw [h0e.out, hx0.out, ← encH_arr, ← shaH_arr]; rfl, k1⟩
  rintro vz w3 ⟨rfl, k1⟩
  have G3 := Keep.mk (Gd.out.below k1 Gd.out.lt)
  have B3 : Keep (Below w.heap.size w w3) := ⟨Bd.out.trans (k1.mono Bd.out.size)⟩
  clear k1 Gd Bd
  refine hK _ _ (blk_range G3.out) fun hH1 => ?_
  clear hK
  simp only [Act.put, List.setIfInBounds_toArray, List.set_cons_zero, List.set_cons_succ]
  refine wpAnyH_take (i := 2) (oi := ⟨some 14, Op.binOp BinOp.eql 25 (Operand.tmp 12) (Operand.tmp 13) 25, 4, _, _, none⟩) (v := .bool false) rfl (by kernel_rfl) (by kernel_rfl) (by kernel_rfl) (fun _ _ _ h => h) (Or.inl ⟨by rfl, fun w hS => by have hq_ := eqB h0e.out hre.out HE.out w; clear hS; go_simp⟩) hH1 ?_
  simp only [Act.put, List.setIfInBounds_toArray, List.set_cons_zero, List.set_cons_succ]
  refine wpAnyH_take (i := 3) (oi := ⟨some 4, Op.assign (Operand.tmp 14), 4, _, _, none⟩) (v := .bool false) rfl (by kernel_rfl) (by kernel_rfl) (by kernel_rfl) (fun _ _ _ h => h) (Or.inl ⟨by rfl, fun w hS => by go_simp⟩) hH1 ?_
  simp only [Act.put, List.setIfInBounds_toArray, List.set_cons_zero, List.set_cons_succ]
  refine wpAnyH_done (by kernel_rfl) ?_ _
  refine hK4 _ _ ?_
  refine wp_ret ?_
  go_ret
  exact ⟨rfl, B3.out⟩
set_option maxRecDepth 8000 in
set_option maxHeartbeats 1000000 in
theorem rt_some (b off m cap n : Nat) (ls : List LV) (hr : Array Value) (root : Hs) (w : World) (hre : Keep (hr = bytesA 32 root.f)) (hml : Keep (ls.length = m)) (hn : 0 < n) (Hn : Keep (n < 9223372036854775808)) (hm2 : m ≤ 2) (hO : ∀ x ∈ ls, okL (n : Int) x = true) (hSm : SmL ls) (hL : LsAt w.heap.size w b off ls) : Calls Try.prog 37 #[.agg (wtA (n : Int) (.slice (some ⟨b, off, none⟩) m cap)), .agg hr] w fun e w' => e = .returned (.bool (ls.all fun x => rgtB n x root)) ∧ Below w.heap.size w w' := by
  have HL := Keep.mk hL
  have HO := Keep.mk hO
  have HSm := Keep.mk hSm
  clear hL hO hSm
  have hn0 : ((n : Int) == 0) = false := by simp; omega
  have hn0' : ¬ n = 0 := by omega
  go_enter Try.func37, Try.ntmps37
  refine wp_seq_k fun K1 hK1 => ?_
  refine wp_region_list (WL.out ?_)
  refine WL.box (by kernel_rfl) 31 (.tmp 0) rfl (wtA (n : Int) (.slice (some ⟨b, off, none⟩) m cap)) rfl ?_
  have W1 := Keep.mk (Blk.new w 31 (wtA (n : Int) (.slice (some ⟨b, off, none⟩) m cap)))
  have b_ := below_new w (.cells (wtA (n : Int) (.slice (some ⟨b, off, none⟩) m cap)) 31)
  change WL _ _ _ _ _ (w.alloc (.cells (wtA (n : Int) (.slice (some ⟨b, off, none⟩) m cap)) 31))
  generalize w.alloc (.cells (wtA (n : Int) (.slice (some ⟨b, off, none⟩) m cap)) 31) = w1 at *
  obtain ⟨d, hd0⟩ : ∃ z, Keep (z = w.heap.size) := ⟨_, ⟨rfl⟩⟩
  rw [← hd0.out] at W1 ⊢
  have B1 : Keep (Below w.heap.size w w1) := ⟨b_⟩
  have gd : Keep (w.heap.size ≤ d) := ⟨by rw [hd0.out]; exact Nat.le_refl _⟩
  clear b_
  have w0_ : w1.cell? ⟨d, 0, none⟩ = some (.int .i64 (n : Int)) := W1.out.c 0 rfl
  have w1_ : w1.cell? ⟨d, 1, none⟩ = some (.slice (some ⟨b, off, none⟩) m cap) := W1.out.c 1 rfl
  simp only [Act.put, List.setIfInBounds_toArray, List.set_cons_zero, List.set_cons_succ]
  refine WL.box (by kernel_rfl) 25 (.tmp 1) rfl hr rfl ?_
  have G2 := Keep.mk (Blk.new w1 25 hr)
  have b_ := below_new w1 (.cells hr 25)
  change WL _ _ _ _ _ (w1.alloc (.cells hr 25))
  generalize w1.alloc (.cells hr 25) = w2 at *
  obtain ⟨g, hg0⟩ : ∃ z, Keep (z = w1.heap.size) := ⟨_, ⟨rfl⟩⟩
  rw [← hg0.out] at G2 ⊢
  have W2 := Keep.mk (W1.out.below b_ W1.out.lt)
  have B2 : Keep (Below w.heap.size w w2) := ⟨B1.out.trans (b_.mono B1.out.size)⟩
  have gg : Keep (w.heap.size ≤ g) := ⟨by rw [hg0.out]; exact B1.out.size⟩
  clear b_
  clear w0_ w1_
  have w0_ : w2.cell? ⟨d, 0, none⟩ = some (.int .i64 (n : Int)) := W2.out.c 0 rfl
  have w1_ : w2.cell? ⟨d, 1, none⟩ = some (.slice (some ⟨b, off, none⟩) m cap) := W2.out.c 1 rfl
  simp only [Act.put, List.setIfInBounds_toArray, List.set_cons_zero, List.set_cons_succ]
  refine WL.val (by kernel_rfl) (.bool false) (by go_simp) ?_
  simp only [Act.put, List.setIfInBounds_toArray, List.set_cons_zero, List.set_cons_succ]
  refine WL.nil ?_
  refine hK1 _ _ ?_
  refine wp_seq_k fun K2 hK2 => ?_
  refine wp_seq_k fun K3 hK3 => ?_
  refine wp_region_list (WL.out ?_)
  refine WL.val (by kernel_rfl) (.pointer (some ⟨d, 0, none⟩)) (by go_simp) ?_
  simp only [Act.put, List.setIfInBounds_toArray, List.set_cons_zero, List.set_cons_succ]
  refine WL.val (by kernel_rfl) (.int .i64 (n : Int)) (by go_simp) ?_
  simp only [Act.put, List.setIfInBounds_toArray, List.set_cons_zero, List.set_cons_succ]
  refine WL.val (by kernel_rfl) (.bool false) (by go_simp) ?_
  simp only [Act.put, List.setIfInBounds_toArray, List.set_cons_zero, List.set_cons_succ]
  refine WL.nil ?_
  refine hK3 _ _ ?_
  refine wp_cond_false rfl ?_
  refine wp_skip ?_
  refine hK2 _ _ ?_
  refine wp_seq_k fun K4 hK4 => ?_
  refine wp_seq_k fun K5 hK5 => ?_
  refine wp_region_list (WL.out ?_)
  refine WL.val (by kernel_rfl) (.pointer (some ⟨d, 1, none⟩)) (by go_simp) ?_
  simp only [Act.put, List.setIfInBounds_toArray, List.set_cons_zero, List.set_cons_succ]
  refine WL.val (by kernel_rfl) (.slice (some ⟨b, off, none⟩) m cap) (by go_simp) ?_
  simp only [Act.put, List.setIfInBounds_toArray, List.set_cons_zero, List.set_cons_succ]
  refine WL.val (by kernel_rfl) (.int .i64 (m : Int)) (by go_simp) ?_
  simp only [Act.put, List.setIfInBounds_toArray, List.set_cons_zero, List.set_cons_succ]
  refine WL.val (by kernel_rfl) (.int .i64 0) (by go_simp) ?_
  simp only [Act.put, List.setIfInBounds_toArray, List.set_cons_zero, List.set_cons_succ]
  refine WL.nil ?_
  refine hK5 _ _ ?_
  refine wp_block ?_
  refine wp_loop (fun ac wr => ∃ (t : Nat) (f : Nat → Value), ac = { tmps := #[.agg (wtA (n : Int) (.slice (some ⟨b, off, none⟩) m cap)), .agg hr, .pointer (some ⟨d, 0, none⟩), .pointer (some ⟨g, 0, none⟩), f 4, undef, f 6, f 7, f 8, .pointer (some ⟨d, 0, none⟩), .int .i64 (n : Int), .bool false, undef, undef, undef, .pointer (some ⟨d, 1, none⟩), .slice (some ⟨b, off, none⟩) m cap, .int .i64 (m : Int), .int .i64 (t : Int), f 19, f 20, f 21, f 22, f 23, f 24, f 25, f 26, f 27, f 28, f 29, f 30, f 31, f 32, f 33, f 34, f 35, f 36, f 37, f 38, f 39, f 40], defers := [] } ∧ t ≤ m ∧ Blk wr d 31 (wtA (n : Int) (.slice (some ⟨b, off, none⟩) m cap)) ∧ Blk wr g 25 hr ∧ Below w.heap.size w wr ∧ (∀ (i : Nat) (x : LV), i < t → ls[i]? = some x → rgtB n x root = true)) (fun a _ => m - (intOf (a.tmps.getD 18 undef)).toNat) ⟨0, fun zz => [.agg (wtA (n : Int) (.slice (some ⟨b, off, none⟩) m cap)), .agg hr, .pointer (some ⟨d, 0, none⟩), .pointer (some ⟨g, 0, none⟩), .bool false, undef, undef, undef, undef, .pointer (some ⟨d, 0, none⟩), .int .i64 (n : Int), .bool false, undef, undef, undef, .pointer (some ⟨d, 1, none⟩), .slice (some ⟨b, off, none⟩) m cap, .int .i64 (m : Int), .int .i64 0, undef, undef, undef, undef, undef, undef, undef, undef, undef, undef, undef, undef, undef, undef, undef, undef, undef, undef, undef, undef, undef, undef].getD zz undef, rfl, by omega, W2.out, G2.out, B2.out, fun i x hi _ => by omega⟩ ?_
  rintro ac wr ⟨t, f, rfl, ht, hD, hG, hb, hI⟩
  have D2 := Keep.mk hD
  have H2 := Keep.mk hG
  have Be2 := Keep.mk hb
  have HI := Keep.mk hI
  clear hD hG hb hI
  try clear w0_ w1_
  by_cases htl : t < m
  · have htl' : (t : Int) < (m : Int) := by omega
    have hw3 : IntKind.i64.wrap ((t : Int) + 1) = ((t + 1 : Nat) : Int) := by rw [IntKind.wrap_i64]; omega
    obtain ⟨x, Hx⟩ : ∃ z, Keep (ls[t]? = some z) := ⟨ls[t]'(by rw [hml.out]; exact htl), ⟨List.getElem?_eq_getElem _⟩⟩
    have XR : Keep (wr.rangeAt b (off + t * 5) (lvA x).toList) := ⟨(HL.out.below Be2.out).at_ t x Hx.out⟩
    have XL : Keep (LfAt w.heap.size wr x) := ⟨(HL.out.below Be2.out).lf x (List.mem_of_getElem? Hx.out)⟩
    have HOx : Keep (okL (n : Int) x = true) := ⟨HO.out x (List.mem_of_getElem? Hx.out)⟩
    obtain ⟨i, hi⟩ : ∃ i : Nat, Keep (x.num = (i : Int)) := ⟨x.num.toNat, ⟨by have h := HOx.out; unfold okL at h; simp at h; omega⟩⟩
    have Hin : Keep (i < n) := ⟨by have h := HOx.out; have h2 := hi.out; unfold okL at h; simp at h; omega⟩
    have HFx : Keep ((0 ≤ x.c.k ∧ x.c.k < 9223372036854775808) ∧ (x.c.s.size ≤ 140737488351232 ∧ x.c.l.length ≤ 140737488351232)) := ⟨by have h := HOx.out; have h2 := HSm.out x (List.mem_of_getElem? Hx.out); unfold okL kmay at h; simp at h; omega⟩
    refine wp_seq_k fun K6 hK6 => ?_
    refine wp_region_list (WL.out ?_)
    refine WL.val (by kernel_rfl) (.bool true) (by go_simp) ?_
    simp only [Act.put, List.setIfInBounds_toArray, List.set_cons_zero, List.set_cons_succ]
    refine WL.nil ?_
    refine hK6 _ _ ?_
    refine wp_seq_k fun K7 hK7 => ?_
    refine wp_cond_true rfl ?_
    refine wp_skip ?_
    refine hK7 _ _ ?_
    refine wp_seq_k fun K8 hK8 => ?_
    refine wp_block ?_
    refine wp_seq_k fun K9 hK9 => ?_
    refine wp_region_list (WL.out ?_)
    refine WL.val (by kernel_rfl) (.pointer (some ⟨b, off + t * 5, none⟩)) (by go_simp) ?_
    simp only [Act.put, List.setIfInBounds_toArray, List.set_cons_zero, List.set_cons_succ]
    refine WL.midA (by kernel_rfl) 69 (.tmp 20) rfl b (off + t * 5) rfl (lvA x) _ XR.out Try.underlying69 rfl (Try.sizeLf x) ?_
    simp only [Act.put, List.setIfInBounds_toArray, List.set_cons_zero, List.set_cons_succ]
    refine WL.new (by kernel_rfl) 69 rfl _ Try.newLf ?_
    have b_ := below_new wr (.cells zLf 69)
    have Z3 := Keep.mk (Blk.new wr 69 zLf)
    change WL _ _ _ _ _ (wr.alloc (.cells zLf 69))
    generalize wr.alloc (.cells zLf 69) = w3 at *
    obtain ⟨z, hz⟩ : ∃ z, Keep (z = wr.heap.size) := ⟨_, ⟨rfl⟩⟩
    rw [← hz.out] at Z3 ⊢
    have D3 := Keep.mk (D2.out.below b_ D2.out.lt)
    have H3 := Keep.mk (H2.out.below b_ H2.out.lt)
    have nz : Keep (d ≠ z) := ⟨by have := D2.out.lt; have := hz.out; omega⟩
    have nz2 : Keep (g ≠ z) := ⟨by have := H2.out.lt; have := hz.out; omega⟩
    have Be3 : Keep (Below w.heap.size w w3) := ⟨Be2.out.trans (b_.mono Be2.out.size)⟩
    have gz : Keep (w.heap.size ≤ z) := ⟨by rw [hz.out]; exact Be2.out.size⟩
    clear b_ hz
    simp only [Act.put, List.setIfInBounds_toArray, List.set_cons_zero, List.set_cons_succ]
    refine WL.storeR (by kernel_rfl) 69 (.tmp 6) (.tmp 21) rfl z (lvA x) rfl rfl 69 zLf Z3.out (Try.sizeLf x) rfl (lvA_one XL.out) ?_
    have Z4 := Keep.mk (Z3.out.setRow (lvA x))
    have D4 := Keep.mk (D3.out.setRow_ne nz.out (lvA x))
    have H4 := Keep.mk (H3.out.setRow_ne nz2.out (lvA x))
    have Be4 : Keep (Below w.heap.size w (w3.setRow z (lvA x))) := ⟨below_setRow Be3.out gz.out _⟩
    generalize w3.setRow z (lvA x) = w4 at *
    have dn : w4.cell? ⟨d, 0, none⟩ = some (.int .i64 (n : Int)) := D4.out.c 0 rfl
    simp only [Act.put]
    refine WL.nil ?_
    refine hK9 _ _ ?_
    refine wp_seq_k fun K10 hK10 => ?_
    refine wp_region_list (WL.out ?_)
    refine WL.row (by kernel_rfl) 69 (.tmp 6) rfl z rfl 69 (lvA x) _ Z4.out Try.underlying69 rfl (Try.sizeLf x) ?_
    simp only [Act.put, List.setIfInBounds_toArray, List.set_cons_zero, List.set_cons_succ]
    refine WL.val (by kernel_rfl) (.pointer (some ⟨d, 0, none⟩)) (by go_simp) ?_
    simp only [Act.put, List.setIfInBounds_toArray, List.set_cons_zero, List.set_cons_succ]
    refine WL.val (by kernel_rfl) (.int .i64 (n : Int)) (by go_simp) ?_
    simp only [Act.put, List.setIfInBounds_toArray, List.set_cons_zero, List.set_cons_succ]
    clear dn
    refine WL.callF (by kernel_rfl) 58 _ _ rfl Try.in58 #[.agg (lvA x), .int .i64 (n : Int)] (by simp [Act.eval]) ?_
    refine (pclimb_any x n i w4 hi Hin.out Hn ((((HL.out.below Be4.out).lf x (List.mem_of_getElem? Hx.out))).mono Be4.out.size) HFx.out (HSm.out x (List.mem_of_getElem? Hx.out)).2).mono ?_
    rintro e w5 ⟨cc, ok, rfl, k1, k2⟩
    refine ⟨_, rfl, ?_⟩
    have D5 := Keep.mk (D4.out.below k1 D4.out.lt)
    have H5 := Keep.mk (H4.out.below k1 H4.out.lt)
    have Be5 : Keep (Below w.heap.size w w5) := ⟨Be4.out.trans (k1.mono Be4.out.size)⟩
    have M5 := Keep.mk k2
    clear k1 k2 Z4 D4 H4
    simp only [Act.put, List.setIfInBounds_toArray, List.set_cons_zero, List.set_cons_succ]
    refine WL.val (by kernel_rfl) (.tuple #[.agg (bytesA 32 cc), .bool ok]) (by go_simp) ?_
    simp only [Act.put, List.setIfInBounds_toArray, List.set_cons_zero, List.set_cons_succ]
    refine WL.val (by kernel_rfl) (.agg (bytesA 32 cc)) (by go_simp) ?_
    simp only [Act.put, List.setIfInBounds_toArray, List.set_cons_zero, List.set_cons_succ]
    refine WL.val (by kernel_rfl) (.bool ok) (by go_simp) ?_
    simp only [Act.put, List.setIfInBounds_toArray, List.set_cons_zero, List.set_cons_succ]
    refine WL.new (by kernel_rfl) 25 rfl _ Try.new25 ?_
    have U6 := Keep.mk (Blk.new w5 25 (bytesA 32 fun _ => 0))
    have b_ := below_new w5 (.cells (bytesA 32 fun _ => 0) 25)
    change WL _ _ _ _ _ (w5.alloc (.cells (bytesA 32 fun _ => 0) 25))
    generalize w5.alloc (.cells (bytesA 32 fun _ => 0) 25) = w6 at *
    obtain ⟨u, hu0⟩ : ∃ z, Keep (z = w5.heap.size) := ⟨_, ⟨rfl⟩⟩
    rw [← hu0.out] at U6 ⊢
    have D6 := Keep.mk (D5.out.below b_ D5.out.lt)
    have H6 := Keep.mk (H5.out.below b_ H5.out.lt)
    have Be6 : Keep (Below w.heap.size w w6) := ⟨Be5.out.trans (b_.mono Be5.out.size)⟩
    have gu : Keep (w.heap.size ≤ u) := ⟨by rw [hu0.out]; exact Be5.out.size⟩
    clear b_
    have nu : Keep (d ≠ u) := ⟨blk_ne D6.out U6.out (by decide)⟩
    have nu2 : Keep (g ≠ u) := ⟨by have := H5.out.lt; have := hu0.out; omega⟩
    simp only [Act.put, List.setIfInBounds_toArray, List.set_cons_zero, List.set_cons_succ]
    refine WL.storeR (by kernel_rfl) 25 (.tmp 7) (.tmp 27) rfl u (bytesA 32 cc) rfl rfl 25 (bytesA 32 fun _ => 0) U6.out (Try.size25B _) (bytesA_sizes _ _ _) (bytesA_one _ _) ?_
    have U7 := Keep.mk (U6.out.setRow (bytesA 32 cc))
    have D7 := Keep.mk (D6.out.setRow_ne nu.out (bytesA 32 cc))
    have H7 := Keep.mk (H6.out.setRow_ne nu2.out (bytesA 32 cc))
    have Be7 : Keep (Below w.heap.size w (w6.setRow u (bytesA 32 cc))) := ⟨below_setRow Be6.out gu.out _⟩
    generalize w6.setRow u (bytesA 32 cc) = w7 at *
    simp only [Act.put]
    refine WL.val (by kernel_rfl) (.bool ok) (by go_simp) ?_
    simp only [Act.put, List.setIfInBounds_toArray, List.set_cons_zero, List.set_cons_succ]
    refine WL.nil ?_
    refine hK10 _ _ ?_
    refine wp_seq_k fun K11 hK11 => ?_
    have Ud : Keep (Blk w7.drew u 25 (bytesA 32 cc)) := ⟨U7.out⟩
    have Dd : Keep (Blk w7.drew d 31 (wtA (n : Int) (.slice (some ⟨b, off, none⟩) m cap))) := ⟨D7.out⟩
    have Hd : Keep (Blk w7.drew g 25 hr) := ⟨H7.out⟩
    have Bd : Keep (Below w.heap.size w w7.drew) := ⟨Be7.out.drew⟩
    clear U7 D7 H7 Be7
    rcases hcl : climbL n i (lfH x) x.ps with _ | ⟨t_, rs_⟩
    · have HB_ : Keep (rgtB n x root = false) := ⟨by unfold rgtB; rw [hi.out, Int.toNat_natCast, hcl]⟩
      obtain rfl : ok = false := by have h := M5.out; rw [hcl] at h; exact h
      clear hcl M5
      refine wp_region_held_drew (S := fun wx => wx.cell? ⟨d, 0, none⟩ = some (.int .i64 (n : Int)) ∧ wx.rangeAt g 0 hr.toList) (by kernel_rfl) (⟨Dd.out.c 0 rfl, blk_range Hd.out⟩) (fun hHeld => ?_)
      refine wpAnyH_take (i := 0) (oi := ⟨some 29, Op.move (Operand.tmp 8), 4, _, _, none⟩) (v := .bool false) rfl (by kernel_rfl) (by kernel_rfl) (by kernel_rfl) (fun _ _ _ h => h) (Or.inl ⟨by rfl, fun w hS => by obtain ⟨hS1, hS2⟩ := hS; clear hS1 hS2; go_simp⟩) hHeld ?_
      simp only [Act.put, List.setIfInBounds_toArray, List.set_cons_zero, List.set_cons_succ]
      refine wpAnyH_take (i := 1) (oi := ⟨some 30, Op.unOp UnOp.not 4 (Operand.tmp 29), 4, _, _, none⟩) (v := .bool true) rfl (by kernel_rfl) (by kernel_rfl) (by kernel_rfl) (fun _ _ _ h => h) (Or.inl ⟨by rfl, fun w hS => by obtain ⟨hS1, hS2⟩ := hS; clear hS1 hS2; go_simp⟩) hHeld ?_
      simp only [Act.put, List.setIfInBounds_toArray, List.set_cons_zero, List.set_cons_succ]
      refine wpAnyH_take (i := 2) (oi := ⟨some 31, Op.move (Operand.tmp 30), 4, _, _, none⟩) (v := .bool true) rfl (by kernel_rfl) (by kernel_rfl) (by kernel_rfl) (fun _ _ _ h => h) (Or.inl ⟨by rfl, fun w hS => by obtain ⟨hS1, hS2⟩ := hS; clear hS1 hS2; go_simp⟩) hHeld ?_
      simp only [Act.put, List.setIfInBounds_toArray, List.set_cons_zero, List.set_cons_succ]
      refine wpAnyH_take (i := 3) (oi := ⟨some 32, Op.fieldAddr 31 (Operand.tmp 2) 0, 0, _, _, some (2, false)⟩) (v := undef) rfl (by kernel_rfl) (by kernel_rfl) (by kernel_rfl) (fun _ _ _ h => h) (Or.inr ⟨by rfl, rfl⟩) hHeld ?_
      simp only [Act.put, List.setIfInBounds_toArray, List.set_cons_zero, List.set_cons_succ]
      refine wpAnyH_take (i := 5) (oi := ⟨some 34, Op.slice 25 (Operand.tmp 7) none none none, 38, _, _, some (2, false)⟩) (v := undef) rfl (by kernel_rfl) (by kernel_rfl) (by kernel_rfl) (fun _ _ _ h => h) (Or.inr ⟨by rfl, rfl⟩) hHeld ?_
      simp only [Act.put, List.setIfInBounds_toArray, List.set_cons_zero, List.set_cons_succ]
      refine wpAnyH_take (i := 8) (oi := ⟨some 37, Op.load 25 (Operand.tmp 3), 25, _, _, some (2, false)⟩) (v := undef) rfl (by kernel_rfl) (by kernel_rfl) (by kernel_rfl) (fun _ _ _ h => h) (Or.inr ⟨by rfl, rfl⟩) hHeld ?_
      simp only [Act.put, List.setIfInBounds_toArray, List.set_cons_zero, List.set_cons_succ]
      refine wpAnyH_take (i := 4) (oi := ⟨some 33, Op.load 3 (Operand.tmp 32), 3, _, _, some (2, false)⟩) (v := undef) rfl (by kernel_rfl) (by kernel_rfl) (by kernel_rfl) (fun _ _ _ h => h) (Or.inr ⟨by rfl, rfl⟩) hHeld ?_
      simp only [Act.put, List.setIfInBounds_toArray, List.set_cons_zero, List.set_cons_succ]
      refine wpAnyH_take (i := 6) (oi := ⟨some 35, Op.buildSlice 59 1 #[(0, Operand.tmp 34)], 59, _, _, some (2, false)⟩) (v := undef) rfl (by kernel_rfl) (by kernel_rfl) (by kernel_rfl) (fun _ _ _ h => h) (Or.inr ⟨by rfl, rfl⟩) hHeld ?_
      simp only [Act.put, List.setIfInBounds_toArray, List.set_cons_zero, List.set_cons_succ]
      refine wpAnyH_take (i := 7) (oi := ⟨some 36, Op.call { callee := Callee.value (Operand.func 25), args := #[Operand.tmp 33, Operand.tmp 35], argTypes := #[3, 59] }, 25, _, _, some (2, false)⟩) (v := undef) rfl (by kernel_rfl) (by kernel_rfl) (by kernel_rfl) (fun _ _ _ h => h) (Or.inr ⟨by rfl, rfl⟩) hHeld ?_
      simp only [Act.put, List.setIfInBounds_toArray, List.set_cons_zero, List.set_cons_succ]
      refine wpAnyH_take (i := 9) (oi := ⟨some 38, Op.binOp BinOp.neq 25 (Operand.tmp 36) (Operand.tmp 37) 25, 4, _, _, some (2, false)⟩) (v := undef) rfl (by kernel_rfl) (by kernel_rfl) (by kernel_rfl) (fun _ _ _ h => h) (Or.inr ⟨by rfl, rfl⟩) hHeld ?_
      simp only [Act.put, List.setIfInBounds_toArray, List.set_cons_zero, List.set_cons_succ]
      refine wpAnyH_take (i := 10) (oi := ⟨some 39, Op.pick (Operand.tmp 31) (Operand.const (Value.bool true)) (Operand.tmp 38), 4, _, _, none⟩) (v := .bool true) rfl (by kernel_rfl) (by kernel_rfl) (by kernel_rfl) (fun _ _ _ h => h) (Or.inl ⟨by rfl, fun w hS => by obtain ⟨hS1, hS2⟩ := hS; clear hS1 hS2; go_simp⟩) hHeld ?_
      simp only [Act.put, List.setIfInBounds_toArray, List.set_cons_zero, List.set_cons_succ]
      refine wpAnyH_done (by kernel_rfl) ?_ _
      refine hK11 _ _ ?_
      refine wp_cond_true rfl ?_
      refine wp_seq_k fun K12 hK12 => ?_
      refine wp_region_list (WL.out ?_)
      refine WL.val (by kernel_rfl) (.bool false) (by go_simp) ?_
      simp only [Act.put, List.setIfInBounds_toArray, List.set_cons_zero, List.set_cons_succ]
      refine WL.nil ?_
      refine hK12 _ _ ?_
      refine wp_ret ?_
      try simp only [Exit.inBlock, Exit.then]
      go_ret
      refine ⟨?_, Bd.out⟩
      rw [show (ls.all fun x => rgtB n x root) = false from by
        rw [List.all_eq_false]
        exact ⟨x, List.mem_of_getElem? Hx.out, by rw [HB_.out]; simp⟩]
      rfl
    · obtain ⟨hok, hct⟩ : ok = true ∧ bytesA 32 cc = bytesA 32 (hof t_) := by have h := M5.out; rw [hcl] at h; exact h
      subst hok
      have hlt : t_.length = 32 := RtP.climb_len shaL shaL_len _ _ _ _ _ _ _ (shaL_len _) hcl
      have hlc : Keep (hl 32 cc = t_) := ⟨by rw [hl_of_arr hct, hl_hof hlt]⟩
      obtain ⟨xt, hxt⟩ : ∃ z, Keep (z = shaH (RtP.topR le8 n t_)) := ⟨_, ⟨rfl⟩⟩
      obtain ⟨ht_, hte⟩ : ∃ z : Array Value, Keep (z = bytesA 32 xt.f) := ⟨_, ⟨rfl⟩⟩
      have Hrow : Keep (bytesA 32 (shaP (2 :: (le8 n ++ [hl 32 cc].flatten))) = ht_) := ⟨by rw [hte.out, hxt.out, ← encH_arr, ← shaH_arr, hlc.out]; unfold RtP.topR; rw [if_pos (by omega)]; simp⟩
      have HRg : Keep (rgtB n x root = decide (xt = root)) := ⟨by unfold rgtB; rw [hi.out, Int.toNat_natCast, hcl, hxt.out]⟩
      clear hcl M5 hct hlt
      by_cases heq : decide (xt = root) = true
      · have HE : Keep (decide (xt = root) = true) := ⟨heq⟩
        clear heq
        have HG_ : Keep (rgtB n x root = true) := ⟨by rw [HRg.out, HE.out]⟩
        refine wp_region_held_drew (S := fun wx => wx.cell? ⟨d, 0, none⟩ = some (.int .i64 (n : Int)) ∧ wx.rangeAt g 0 hr.toList) (by kernel_rfl) (⟨Dd.out.c 0 rfl, blk_range Hd.out⟩) (fun hHeld => ?_)
        refine wpAnyH_take (i := 0) (oi := ⟨some 29, Op.move (Operand.tmp 8), 4, _, _, none⟩) (v := .bool true) rfl (by kernel_rfl) (by kernel_rfl) (by kernel_rfl) (fun _ _ _ h => h) (Or.inl ⟨by rfl, fun w hS => by obtain ⟨hS1, hS2⟩ := hS; clear hS2; go_simp⟩) hHeld ?_
        simp only [Act.put, List.setIfInBounds_toArray, List.set_cons_zero, List.set_cons_succ]
        refine wpAnyH_take (i := 1) (oi := ⟨some 30, Op.unOp UnOp.not 4 (Operand.tmp 29), 4, _, _, none⟩) (v := .bool false) rfl (by kernel_rfl) (by kernel_rfl) (by kernel_rfl) (fun _ _ _ h => h) (Or.inl ⟨by rfl, fun w hS => by obtain ⟨hS1, hS2⟩ := hS; clear hS2; go_simp⟩) hHeld ?_
        simp only [Act.put, List.setIfInBounds_toArray, List.set_cons_zero, List.set_cons_succ]
        refine wpAnyH_take (i := 2) (oi := ⟨some 31, Op.move (Operand.tmp 30), 4, _, _, none⟩) (v := .bool false) rfl (by kernel_rfl) (by kernel_rfl) (by kernel_rfl) (fun _ _ _ h => h) (Or.inl ⟨by rfl, fun w hS => by obtain ⟨hS1, hS2⟩ := hS; clear hS2; go_simp⟩) hHeld ?_
        simp only [Act.put, List.setIfInBounds_toArray, List.set_cons_zero, List.set_cons_succ]
        refine wpAnyH_take (i := 3) (oi := ⟨some 32, Op.fieldAddr 31 (Operand.tmp 2) 0, 0, _, _, some (2, false)⟩) (v := .pointer (some ⟨d, 0, none⟩)) rfl (by kernel_rfl) (by kernel_rfl) (by kernel_rfl) (fun _ _ _ h => h) (Or.inl ⟨by rfl, fun w hS => by obtain ⟨hS1, hS2⟩ := hS; clear hS2; go_simp⟩) hHeld ?_
        simp only [Act.put, List.setIfInBounds_toArray, List.set_cons_zero, List.set_cons_succ]
        refine wpAnyH_take (i := 5) (oi := ⟨some 34, Op.slice 25 (Operand.tmp 7) none none none, 38, _, _, some (2, false)⟩) (v := .slice (some ⟨u, 0, none⟩) 32 32) rfl (by kernel_rfl) (by kernel_rfl) (by kernel_rfl) (fun _ _ _ h => h) (Or.inl ⟨by rfl, fun w hS => by obtain ⟨hS1, hS2⟩ := hS; clear hS2; go_simp⟩) hHeld ?_
        simp only [Act.put, List.setIfInBounds_toArray, List.set_cons_zero, List.set_cons_succ]
        refine wpAnyH_take (i := 8) (oi := ⟨some 37, Op.load 25 (Operand.tmp 3), 25, _, _, some (2, false)⟩) (v := .agg hr) rfl (by kernel_rfl) (by kernel_rfl) (by kernel_rfl) (fun _ _ _ h => h) (yieldsIf_ld (by rfl) (Operand.tmp 3) 25 rfl g 0 rfl hr _ Try.underlying25 rfl (by rw [hre.out]; exact Try.size25B _) fun w hS => hS.2) hHeld ?_
        simp only [Act.put, List.setIfInBounds_toArray, List.set_cons_zero, List.set_cons_succ]
        refine wpAnyH_take (i := 4) (oi := ⟨some 33, Op.load 3 (Operand.tmp 32), 3, _, _, some (2, false)⟩) (v := .int .i64 (n : Int)) rfl (by kernel_rfl) (by kernel_rfl) (by kernel_rfl) (fun _ _ _ h => h) (Or.inl ⟨by rfl, fun w hS => by obtain ⟨hS1, hS2⟩ := hS; clear hS2; go_simp⟩) hHeld ?_
        simp only [Act.put, List.setIfInBounds_toArray, List.set_cons_zero, List.set_cons_succ]
        refine wpAnyH_ready (rs := [6]) (by kernel_rfl) (by simp) ?_
        refine AllReadyH.cons (o := ⟨some 35, Op.buildSlice 59 1 #[(0, Operand.tmp 34)], 59, _, _, some (2, false)⟩) rfl (fun K hK => ?_) AllReadyH.nil
        rw [if_pos (by rfl)]
        refine wp_bs 59 1 _ rfl #[(0, .slice (some ⟨u, 0, none⟩) 32 32)] (by simp [Act.eval]) _ _ (bsRw1 _ _ _ _) ?_
        have b_ := below_new w7.drew (.cells #[.slice (some ⟨u, 0, none⟩) 32 32] 38)
        have Q8 := Keep.mk (Blk.new w7.drew 38 #[.slice (some ⟨u, 0, none⟩) 32 32])
        generalize w7.drew.alloc (.cells #[.slice (some ⟨u, 0, none⟩) 32 32] 38) = w8 at *
        obtain ⟨gg, hgg⟩ : ∃ z, Keep (z = w7.drew.heap.size) := ⟨_, ⟨rfl⟩⟩
        rw [← hgg.out] at Q8 ⊢
        have X8 : Keep (RsV w8 (.slice (some ⟨gg, 0, none⟩) 1 1) [.slice (some ⟨u, 0, none⟩) 32 32] [hl 32 cc]) := ⟨RsV.one Q8.out ((row_arr Ud.out).below b_)⟩
        have D8 := Keep.mk (Dd.out.below b_ Dd.out.lt)
        have H8 := Keep.mk (Hd.out.below b_ Hd.out.lt)
        have Be8 : Keep (Below w.heap.size w w8) := ⟨Bd.out.trans (b_.mono Bd.out.size)⟩
        clear b_ hgg Q8 Ud Dd Hd Bd
        refine hK _ _ ⟨D8.out.c 0 rfl, blk_range H8.out⟩ fun hH1 => ?_
        clear hK
        simp only [Act.put, List.setIfInBounds_toArray, List.set_cons_zero, List.set_cons_succ]
        refine wpAnyH_ready (rs := [7]) (by kernel_rfl) (by simp) ?_
        refine AllReadyH.cons (o := ⟨some 36, Op.call { callee := Callee.value (Operand.func 25), args := #[Operand.tmp 33, Operand.tmp 35], argTypes := #[3, 59] }, 25, _, _, some (2, false)⟩) rfl (fun K hK => ?_) AllReadyH.nil
        rw [if_pos (by rfl)]
        refine wp_callF 25 _ _ rfl Try.in25 #[.int .i64 (n : Int), .slice (some ⟨gg, 0, none⟩) 1 1] (by simp [Act.eval]) (fun vz wz => vz = .agg ht_ ∧ Below w8.heap.size w8 wz) ?_ ?_
        · refine (proot_any n _ _ _ w8 X8.out (by simp) (by simp [hl_len])).mono ?_
          rintro e wz ⟨rfl, k1⟩
          exact ⟨_, rfl, by rw [Hrow.out], k1⟩
        rintro vz w9 ⟨rfl, k1⟩
        have D9 := Keep.mk (D8.out.below k1 D8.out.lt)
        have H9 := Keep.mk (H8.out.below k1 H8.out.lt)
        have Be9 : Keep (Below w.heap.size w w9) := ⟨Be8.out.trans (k1.mono Be8.out.size)⟩
        clear k1 D8 H8 Be8 X8
        refine hK _ _ (⟨D9.out.c 0 rfl, blk_range H9.out⟩) fun hH2 => ?_
        clear hK
        simp only [Act.put, List.setIfInBounds_toArray, List.set_cons_zero, List.set_cons_succ]
        refine wpAnyH_take (i := 9) (oi := ⟨some 38, Op.binOp BinOp.neq 25 (Operand.tmp 36) (Operand.tmp 37) 25, 4, _, _, some (2, false)⟩) (v := .bool false) rfl (by kernel_rfl) (by kernel_rfl) (by kernel_rfl) (fun _ _ _ h => h) (Or.inl ⟨by rfl, fun w hS => by have hq_ := eqB hte.out hre.out HE.out w; clear hS; go_simp⟩) hH2 ?_
        simp only [Act.put, List.setIfInBounds_toArray, List.set_cons_zero, List.set_cons_succ]
        refine wpAnyH_take (i := 10) (oi := ⟨some 39, Op.pick (Operand.tmp 31) (Operand.const (Value.bool true)) (Operand.tmp 38), 4, _, _, none⟩) (v := .bool false) rfl (by kernel_rfl) (by kernel_rfl) (by kernel_rfl) (fun _ _ _ h => h) (Or.inl ⟨by rfl, fun w hS => by obtain ⟨hS1, hS2⟩ := hS; clear hS2; go_simp⟩) hH2 ?_
        simp only [Act.put, List.setIfInBounds_toArray, List.set_cons_zero, List.set_cons_succ]
        refine wpAnyH_done (by kernel_rfl) ?_ _
        refine hK11 _ _ ?_
        refine wp_cond_false rfl ?_
        refine wp_skip ?_
        refine hK8 _ _ ?_
        refine wp_region_list (WL.out ?_)
        refine WL.val (by kernel_rfl) (.int .i64 ((t + 1 : Nat) : Int)) (by go_simp) ?_
        simp only [Act.put, List.setIfInBounds_toArray, List.set_cons_zero, List.set_cons_succ]
        refine WL.val (by kernel_rfl) (.int .i64 ((t + 1 : Nat) : Int)) (by go_simp) ?_
        simp only [Act.put, List.setIfInBounds_toArray, List.set_cons_zero, List.set_cons_succ]
        refine WL.nil ?_
        refine ⟨⟨t + 1, fun zz => [.agg (wtA (n : Int) (.slice (some ⟨b, off, none⟩) m cap)), .agg hr, .pointer (some ⟨d, 0, none⟩), .pointer (some ⟨g, 0, none⟩), f 4, undef, .pointer (some ⟨z, 0, none⟩), .pointer (some ⟨u, 0, none⟩), .bool true, .pointer (some ⟨d, 0, none⟩), .int .i64 (n : Int), .bool false, undef, undef, undef, .pointer (some ⟨d, 1, none⟩), .slice (some ⟨b, off, none⟩) m cap, .int .i64 (m : Int), .int .i64 ((t + 1 : Nat) : Int), .bool true, .pointer (some ⟨b, off + t * 5, none⟩), .agg (lvA x), .tuple #[.agg (bytesA 32 cc), .bool true], .agg (lvA x), .pointer (some ⟨d, 0, none⟩), .int .i64 (n : Int), .tuple #[.agg (bytesA 32 cc), .bool true], .agg (bytesA 32 cc), .bool true, .bool true, .bool false, .bool false, .pointer (some ⟨d, 0, none⟩), .int .i64 (n : Int), .slice (some ⟨u, 0, none⟩) 32 32, .slice (some ⟨gg, 0, none⟩) 1 1, .agg ht_, .agg hr, .bool false, .bool false, .int .i64 ((t + 1 : Nat) : Int)].getD zz undef, rfl, by omega, D9.out, H9.out, Be9.out, fun i y hi hy => ?_⟩, ?_⟩
        · by_cases e : i = t
          · subst e; rw [Hx.out] at hy; injection hy with hy; subst hy; exact HG_.out
          · exact HI.out i y (by omega) hy
        · simp only [intOf]; show m - (((t + 1 : Nat) : Int)).toNat < m - ((t : Int)).toNat; omega
      · have HE : Keep (decide (xt = root) = false) := ⟨by simpa using heq⟩
        clear heq
        have HG_ : Keep (rgtB n x root = false) := ⟨by rw [HRg.out, HE.out]⟩
        refine wp_region_held_drew (S := fun wx => wx.cell? ⟨d, 0, none⟩ = some (.int .i64 (n : Int)) ∧ wx.rangeAt g 0 hr.toList) (by kernel_rfl) (⟨Dd.out.c 0 rfl, blk_range Hd.out⟩) (fun hHeld => ?_)
        refine wpAnyH_take (i := 0) (oi := ⟨some 29, Op.move (Operand.tmp 8), 4, _, _, none⟩) (v := .bool true) rfl (by kernel_rfl) (by kernel_rfl) (by kernel_rfl) (fun _ _ _ h => h) (Or.inl ⟨by rfl, fun w hS => by obtain ⟨hS1, hS2⟩ := hS; clear hS2; go_simp⟩) hHeld ?_
        simp only [Act.put, List.setIfInBounds_toArray, List.set_cons_zero, List.set_cons_succ]
        refine wpAnyH_take (i := 1) (oi := ⟨some 30, Op.unOp UnOp.not 4 (Operand.tmp 29), 4, _, _, none⟩) (v := .bool false) rfl (by kernel_rfl) (by kernel_rfl) (by kernel_rfl) (fun _ _ _ h => h) (Or.inl ⟨by rfl, fun w hS => by obtain ⟨hS1, hS2⟩ := hS; clear hS2; go_simp⟩) hHeld ?_
        simp only [Act.put, List.setIfInBounds_toArray, List.set_cons_zero, List.set_cons_succ]
        refine wpAnyH_take (i := 2) (oi := ⟨some 31, Op.move (Operand.tmp 30), 4, _, _, none⟩) (v := .bool false) rfl (by kernel_rfl) (by kernel_rfl) (by kernel_rfl) (fun _ _ _ h => h) (Or.inl ⟨by rfl, fun w hS => by obtain ⟨hS1, hS2⟩ := hS; clear hS2; go_simp⟩) hHeld ?_
        simp only [Act.put, List.setIfInBounds_toArray, List.set_cons_zero, List.set_cons_succ]
        refine wpAnyH_take (i := 3) (oi := ⟨some 32, Op.fieldAddr 31 (Operand.tmp 2) 0, 0, _, _, some (2, false)⟩) (v := .pointer (some ⟨d, 0, none⟩)) rfl (by kernel_rfl) (by kernel_rfl) (by kernel_rfl) (fun _ _ _ h => h) (Or.inl ⟨by rfl, fun w hS => by obtain ⟨hS1, hS2⟩ := hS; clear hS2; go_simp⟩) hHeld ?_
        simp only [Act.put, List.setIfInBounds_toArray, List.set_cons_zero, List.set_cons_succ]
        refine wpAnyH_take (i := 5) (oi := ⟨some 34, Op.slice 25 (Operand.tmp 7) none none none, 38, _, _, some (2, false)⟩) (v := .slice (some ⟨u, 0, none⟩) 32 32) rfl (by kernel_rfl) (by kernel_rfl) (by kernel_rfl) (fun _ _ _ h => h) (Or.inl ⟨by rfl, fun w hS => by obtain ⟨hS1, hS2⟩ := hS; clear hS2; go_simp⟩) hHeld ?_
        simp only [Act.put, List.setIfInBounds_toArray, List.set_cons_zero, List.set_cons_succ]
        refine wpAnyH_take (i := 8) (oi := ⟨some 37, Op.load 25 (Operand.tmp 3), 25, _, _, some (2, false)⟩) (v := .agg hr) rfl (by kernel_rfl) (by kernel_rfl) (by kernel_rfl) (fun _ _ _ h => h) (yieldsIf_ld (by rfl) (Operand.tmp 3) 25 rfl g 0 rfl hr _ Try.underlying25 rfl (by rw [hre.out]; exact Try.size25B _) fun w hS => hS.2) hHeld ?_
        simp only [Act.put, List.setIfInBounds_toArray, List.set_cons_zero, List.set_cons_succ]
        refine wpAnyH_take (i := 4) (oi := ⟨some 33, Op.load 3 (Operand.tmp 32), 3, _, _, some (2, false)⟩) (v := .int .i64 (n : Int)) rfl (by kernel_rfl) (by kernel_rfl) (by kernel_rfl) (fun _ _ _ h => h) (Or.inl ⟨by rfl, fun w hS => by obtain ⟨hS1, hS2⟩ := hS; clear hS2; go_simp⟩) hHeld ?_
        simp only [Act.put, List.setIfInBounds_toArray, List.set_cons_zero, List.set_cons_succ]
        refine wpAnyH_ready (rs := [6]) (by kernel_rfl) (by simp) ?_
        refine AllReadyH.cons (o := ⟨some 35, Op.buildSlice 59 1 #[(0, Operand.tmp 34)], 59, _, _, some (2, false)⟩) rfl (fun K hK => ?_) AllReadyH.nil
        rw [if_pos (by rfl)]
        refine wp_bs 59 1 _ rfl #[(0, .slice (some ⟨u, 0, none⟩) 32 32)] (by simp [Act.eval]) _ _ (bsRw1 _ _ _ _) ?_
        have b_ := below_new w7.drew (.cells #[.slice (some ⟨u, 0, none⟩) 32 32] 38)
        have Q8 := Keep.mk (Blk.new w7.drew 38 #[.slice (some ⟨u, 0, none⟩) 32 32])
        generalize w7.drew.alloc (.cells #[.slice (some ⟨u, 0, none⟩) 32 32] 38) = w8 at *
        obtain ⟨gg, hgg⟩ : ∃ z, Keep (z = w7.drew.heap.size) := ⟨_, ⟨rfl⟩⟩
        rw [← hgg.out] at Q8 ⊢
        have X8 : Keep (RsV w8 (.slice (some ⟨gg, 0, none⟩) 1 1) [.slice (some ⟨u, 0, none⟩) 32 32] [hl 32 cc]) := ⟨RsV.one Q8.out ((row_arr Ud.out).below b_)⟩
        have D8 := Keep.mk (Dd.out.below b_ Dd.out.lt)
        have H8 := Keep.mk (Hd.out.below b_ Hd.out.lt)
        have Be8 : Keep (Below w.heap.size w w8) := ⟨Bd.out.trans (b_.mono Bd.out.size)⟩
        clear b_ hgg Q8 Ud Dd Hd Bd
        refine hK _ _ ⟨D8.out.c 0 rfl, blk_range H8.out⟩ fun hH1 => ?_
        clear hK
        simp only [Act.put, List.setIfInBounds_toArray, List.set_cons_zero, List.set_cons_succ]
        refine wpAnyH_ready (rs := [7]) (by kernel_rfl) (by simp) ?_
        refine AllReadyH.cons (o := ⟨some 36, Op.call { callee := Callee.value (Operand.func 25), args := #[Operand.tmp 33, Operand.tmp 35], argTypes := #[3, 59] }, 25, _, _, some (2, false)⟩) rfl (fun K hK => ?_) AllReadyH.nil
        rw [if_pos (by rfl)]
        refine wp_callF 25 _ _ rfl Try.in25 #[.int .i64 (n : Int), .slice (some ⟨gg, 0, none⟩) 1 1] (by simp [Act.eval]) (fun vz wz => vz = .agg ht_ ∧ Below w8.heap.size w8 wz) ?_ ?_
        · refine (proot_any n _ _ _ w8 X8.out (by simp) (by simp [hl_len])).mono ?_
          rintro e wz ⟨rfl, k1⟩
          exact ⟨_, rfl, by rw [Hrow.out], k1⟩
        rintro vz w9 ⟨rfl, k1⟩
        have D9 := Keep.mk (D8.out.below k1 D8.out.lt)
        have H9 := Keep.mk (H8.out.below k1 H8.out.lt)
        have Be9 : Keep (Below w.heap.size w w9) := ⟨Be8.out.trans (k1.mono Be8.out.size)⟩
        clear k1 D8 H8 Be8 X8
        refine hK _ _ (⟨D9.out.c 0 rfl, blk_range H9.out⟩) fun hH2 => ?_
        clear hK
        simp only [Act.put, List.setIfInBounds_toArray, List.set_cons_zero, List.set_cons_succ]
        refine wpAnyH_take (i := 9) (oi := ⟨some 38, Op.binOp BinOp.neq 25 (Operand.tmp 36) (Operand.tmp 37) 25, 4, _, _, some (2, false)⟩) (v := .bool true) rfl (by kernel_rfl) (by kernel_rfl) (by kernel_rfl) (fun _ _ _ h => h) (Or.inl ⟨by rfl, fun w hS => by have hq_ := eqB hte.out hre.out HE.out w; clear hS; go_simp⟩) hH2 ?_
        simp only [Act.put, List.setIfInBounds_toArray, List.set_cons_zero, List.set_cons_succ]
        refine wpAnyH_take (i := 10) (oi := ⟨some 39, Op.pick (Operand.tmp 31) (Operand.const (Value.bool true)) (Operand.tmp 38), 4, _, _, none⟩) (v := .bool true) rfl (by kernel_rfl) (by kernel_rfl) (by kernel_rfl) (fun _ _ _ h => h) (Or.inl ⟨by rfl, fun w hS => by obtain ⟨hS1, hS2⟩ := hS; clear hS2; go_simp⟩) hH2 ?_
        simp only [Act.put, List.setIfInBounds_toArray, List.set_cons_zero, List.set_cons_succ]
        refine wpAnyH_done (by kernel_rfl) ?_ _
        refine hK11 _ _ ?_
        refine wp_cond_true rfl ?_
        refine wp_seq_k fun K13 hK13 => ?_
        refine wp_region_list (WL.out ?_)
        refine WL.val (by kernel_rfl) (.bool false) (by go_simp) ?_
        simp only [Act.put, List.setIfInBounds_toArray, List.set_cons_zero, List.set_cons_succ]
        refine WL.nil ?_
        refine hK13 _ _ ?_
        refine wp_ret ?_
        try simp only [Exit.inBlock, Exit.then]
        go_ret
        refine ⟨?_, Be9.out⟩
        rw [show (ls.all fun x => rgtB n x root) = false from by
          rw [List.all_eq_false]
          exact ⟨x, List.mem_of_getElem? Hx.out, by rw [HG_.out]; simp⟩]
        rfl
  · have htl' : ¬ (t : Int) < (m : Int) := by omega
    refine wp_seq_k fun K14 hK14 => ?_
    refine wp_region_list (WL.out ?_)
    refine WL.val (by kernel_rfl) (.bool false) (by go_simp) ?_
    simp only [Act.put, List.setIfInBounds_toArray, List.set_cons_zero, List.set_cons_succ]
    refine WL.nil ?_
    refine hK14 _ _ ?_
    refine wp_seq_k fun K15 hK15 => ?_
    refine wp_cond_false rfl ?_
    refine wp_exit ?_
    refine hK4 _ _ ?_
    refine wp_seq_k fun K16 hK16 => ?_
    refine wp_region_list (WL.out ?_)
    refine WL.val (by kernel_rfl) (.bool true) (by go_simp) ?_
    simp only [Act.put, List.setIfInBounds_toArray, List.set_cons_zero, List.set_cons_succ]
    refine WL.nil ?_
    refine hK16 _ _ ?_
    refine wp_ret ?_
    try simp only [Exit.inBlock, Exit.then]
    go_ret
    refine ⟨?_, Be2.out⟩
    rw [show (ls.all fun x => rgtB n x root) = true from by
      rw [List.all_eq_true]
      intro x hx
      obtain ⟨i, hi, e⟩ := List.getElem_of_mem hx
      exact HI.out i x (by rw [hml.out] at hi; omega) (by rw [List.getElem?_eq_getElem hi, e])]
    rfl

theorem rooted_any (v : Value) (n : Int) (ls : List LV) (root : Hs) (w : World) (hL : LsV w.heap.size w v ls) (hF : formB n ls = true) (hn : n < 9223372036854775808) (hSm : SmL ls) : Calls Try.prog 37 #[.agg (wtA n v), .agg (bytesA 32 root.f)] w fun e w' => e = .returned (.bool (rtB n ls root)) ∧ Below w.heap.size w w' := by
  obtain ⟨la, cap, rfl, hA⟩ := hL.form
  unfold rtB
  unfold formB at hF
  by_cases h0 : n = 0
  · subst h0
    rw [if_pos rfl]
    cases e : decide (shaH (2 :: (le8 0 ++ [])) = root)
    · exact rt_zero_f la _ cap _ _ root _ w ⟨rfl⟩ ⟨rfl⟩ ⟨rfl⟩ ⟨e⟩
    · exact rt_zero_t la _ cap _ _ root _ w ⟨rfl⟩ ⟨rfl⟩ ⟨rfl⟩ ⟨e⟩
  · rw [if_neg h0] at hF ⊢
    by_cases h1 : n < 0 ∨ ls.length < 1 ∨ 2 < ls.length
    · rw [if_pos h1] at hF; cases hF
    · rw [if_neg h1, List.all_eq_true] at hF
      obtain ⟨b, off, rfl, h⟩ := hA (by omega)
      obtain ⟨k, rfl⟩ : ∃ k : Nat, n = (k : Int) := ⟨n.toNat, by omega⟩
      rw [Int.toNat_natCast]
      exact rt_some b off _ cap k ls _ root w ⟨rfl⟩ ⟨rfl⟩ (by omega) ⟨by omega⟩ (by omega) hF hSm h

end Go.Proofs.Ytjklmkeedhgncaa
