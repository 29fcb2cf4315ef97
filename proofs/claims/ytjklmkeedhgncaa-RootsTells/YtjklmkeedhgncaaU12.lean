import Derived.Test.YtjklmkeedhgncaaU11
import Derived.Deep.RegionHeld3
namespace Go.Proofs.Ytjklmkeedhgncaa
open Go.RowKit
set_option linter.unusedSimpArgs false
set_option linter.unusedVariables false
theorem Try.in36 (w : World) (vs : Array Value) : (callFunc 36 vs).run Try.prog w = .ok (.enter 36 vs) w := by kernel_rfl
def sgn (x : LV) (kind : Int) (key : ByteArray) : Int := stI x.c.k x.c.s kind key
def ansB (n : Int) (ls : List LV) (kind : Int) (key : ByteArray) : Bool := match ls with
  | [] => true
  | [x] => decide (sgn x kind key = 0) || ((decide (0 < sgn x kind key) && decide (x.num = 0)) || (decide (sgn x kind key < 0) && decide (x.num = n - 1)))
  | [x, y] => decide (y.num = x.num + 1) && (decide (sgn x kind key < 0) && decide (0 < sgn y kind key))
  | _ => false
set_option maxRecDepth 8000 in
theorem ans_nil (la : Option Addr) (cap : Nat) (n kind : Int) (key : ByteArray) (w : World) : Calls Try.prog 36 #[.agg (wtA n (.slice la 0 cap)), .int .i64 kind, .string key] w fun e w' => e = .returned (.bool true) ∧ Below w.heap.size w w' := by
  go_enter Try.func36, Try.ntmps36
  refine wp_seq_k fun K1 hK1 => ?_
  refine wp_region_list (WL.out ?_)
  refine WL.box (by kernel_rfl) 31 (.tmp 0) rfl (wtA n (.slice la 0 cap)) rfl ?_
  have W1 := Keep.mk (Blk.new w 31 (wtA n (.slice la 0 cap)))
  have b_ := below_new w (.cells (wtA n (.slice la 0 cap)) 31)
  change WL _ _ _ _ _ (w.alloc (.cells (wtA n (.slice la 0 cap)) 31))
  generalize w.alloc (.cells (wtA n (.slice la 0 cap)) 31) = w1 at *
  obtain ⟨d, hd0⟩ : ∃ z, Keep (z = w.heap.size) := ⟨_, ⟨rfl⟩⟩
  rw [← hd0.out] at W1 ⊢
  have B1 : Keep (Below w.heap.size w w1) := ⟨b_⟩
  have gd : Keep (w.heap.size ≤ d) := ⟨by rw [hd0.out]; exact Nat.le_refl _⟩
  clear b_
  have w0_ : w1.cell? ⟨d, 0, none⟩ = some (.int .i64 n) := W1.out.c 0 rfl
  have w1_ : w1.cell? ⟨d, 1, none⟩ = some (.slice la 0 cap) := W1.out.c 1 rfl
  simp only [Act.put, List.setIfInBounds_toArray, List.set_cons_zero, List.set_cons_succ]
  refine WL.val (by kernel_rfl) (.bool false) (by go_simp) ?_
  simp only [Act.put, List.setIfInBounds_toArray, List.set_cons_zero, List.set_cons_succ]
  refine WL.nil ?_
  refine hK1 _ _ ?_
  refine wp_seq_k fun K2 hK2 => ?_
  refine wp_seq_k fun K3 hK3 => ?_
  refine wp_region_list (WL.out ?_)
  refine WL.val (by kernel_rfl) (.pointer (some ⟨d, 1, none⟩)) (by go_simp) ?_
  simp only [Act.put, List.setIfInBounds_toArray, List.set_cons_zero, List.set_cons_succ]
  refine WL.val (by kernel_rfl) (.slice la 0 cap) (by go_simp) ?_
  simp only [Act.put, List.setIfInBounds_toArray, List.set_cons_zero, List.set_cons_succ]
  refine WL.val (by kernel_rfl) (.int .i64 0) (by go_simp) ?_
  simp only [Act.put, List.setIfInBounds_toArray, List.set_cons_zero, List.set_cons_succ]
  refine WL.val (by kernel_rfl) (.bool true) (by go_simp) ?_
  simp only [Act.put, List.setIfInBounds_toArray, List.set_cons_zero, List.set_cons_succ]
  refine WL.nil ?_
  refine hK3 _ _ ?_
  refine wp_cond_true rfl ?_
  refine wp_seq_k fun K4 hK4 => ?_
  refine wp_region_list (WL.out ?_)
  refine WL.val (by kernel_rfl) (.bool true) (by go_simp) ?_
  simp only [Act.put, List.setIfInBounds_toArray, List.set_cons_zero, List.set_cons_succ]
  refine WL.nil ?_
  refine hK4 _ _ ?_
  refine wp_ret ?_
  go_ret
  exact ⟨rfl, B1.out⟩
set_option maxRecDepth 8000 in
set_option maxHeartbeats 1000000 in
theorem ans_one (b off cap : Nat) (n kind : Int) (key : ByteArray) (x : LV) (w : World) (s : Int) (hs : Keep (s = sgn x kind key)) (hn : 1 ≤ n ∧ n ≤ 9223372036854775807) (hx : 0 ≤ x.num ∧ x.num < n) (hL : LsAt w.heap.size w b off [x]) : Calls Try.prog 36 #[.agg (wtA n (.slice (some ⟨b, off, none⟩) 1 cap)), .int .i64 kind, .string key] w fun e w' => e = .returned (.bool (ansB n [x] kind key)) ∧ Below w.heap.size w w' := by
  have HR : Keep (∀ wx, Below w.heap.size w wx → wx.rangeAt b off (lvA x).toList) := ⟨fun wx hb => by have h := (hL.below hb).at_ 0 x rfl; simpa using h⟩
  have HR2 : Keep (∀ wx, Below w.heap.size w wx → wx.rangeAt b (off) (lvA x).toList) := ⟨fun wx hb => by have h := (hL.below hb).at_ 0 x rfl; simpa using h⟩
  have HX1 : Keep ((lvA x).all (·.oneCell') = true) := ⟨lvA_one (hL.lf x (by simp))⟩
  have HY1 : Keep ((lvA x).all (·.oneCell') = true) := ⟨lvA_one (hL.lf x (by simp))⟩
  have hwn : IntKind.i64.wrap (n - 1) = n - 1 := by rw [IntKind.wrap_i64]; omega
  have hw0 : IntKind.i64.wrap 0 = 0 := by decide
  have hw1 : IntKind.i64.wrap 1 = 1 := by decide
  have hwx : IntKind.i64.wrap (x.num + 1) = x.num + 1 := by rw [IntKind.wrap_i64]; omega
  clear hL hn hx
  go_enter Try.func36, Try.ntmps36
  refine wp_seq_k fun K1 hK1 => ?_
  refine wp_region_list (WL.out ?_)
  refine WL.box (by kernel_rfl) 31 (.tmp 0) rfl (wtA n (.slice (some ⟨b, off, none⟩) 1 cap)) rfl ?_
  have W1 := Keep.mk (Blk.new w 31 (wtA n (.slice (some ⟨b, off, none⟩) 1 cap)))
  have b_ := below_new w (.cells (wtA n (.slice (some ⟨b, off, none⟩) 1 cap)) 31)
  change WL _ _ _ _ _ (w.alloc (.cells (wtA n (.slice (some ⟨b, off, none⟩) 1 cap)) 31))
  generalize w.alloc (.cells (wtA n (.slice (some ⟨b, off, none⟩) 1 cap)) 31) = w1 at *
  obtain ⟨d, hd0⟩ : ∃ z, Keep (z = w.heap.size) := ⟨_, ⟨rfl⟩⟩
  rw [← hd0.out] at W1 ⊢
  have B1 : Keep (Below w.heap.size w w1) := ⟨b_⟩
  have gd : Keep (w.heap.size ≤ d) := ⟨by rw [hd0.out]; exact Nat.le_refl _⟩
  clear b_
  have w0_ : w1.cell? ⟨d, 0, none⟩ = some (.int .i64 n) := W1.out.c 0 rfl
  have w1_ : w1.cell? ⟨d, 1, none⟩ = some (.slice (some ⟨b, off, none⟩) 1 cap) := W1.out.c 1 rfl
  simp only [Act.put, List.setIfInBounds_toArray, List.set_cons_zero, List.set_cons_succ]
  refine WL.val (by kernel_rfl) (.bool false) (by go_simp) ?_
  simp only [Act.put, List.setIfInBounds_toArray, List.set_cons_zero, List.set_cons_succ]
  refine WL.nil ?_
  refine hK1 _ _ ?_
  refine wp_seq_k fun K2 hK2 => ?_
  refine wp_seq_k fun K3 hK3 => ?_
  refine wp_region_list (WL.out ?_)
  refine WL.val (by kernel_rfl) (.pointer (some ⟨d, 1, none⟩)) (by go_simp) ?_
  simp only [Act.put, List.setIfInBounds_toArray, List.set_cons_zero, List.set_cons_succ]
  refine WL.val (by kernel_rfl) (.slice (some ⟨b, off, none⟩) 1 cap) (by go_simp) ?_
  simp only [Act.put, List.setIfInBounds_toArray, List.set_cons_zero, List.set_cons_succ]
  refine WL.val (by kernel_rfl) (.int .i64 1) (by go_simp) ?_
  simp only [Act.put, List.setIfInBounds_toArray, List.set_cons_zero, List.set_cons_succ]
  refine WL.val (by kernel_rfl) (.bool false) (by go_simp) ?_
  simp only [Act.put, List.setIfInBounds_toArray, List.set_cons_zero, List.set_cons_succ]
  refine WL.nil ?_
  refine hK3 _ _ ?_
  refine wp_cond_false rfl ?_
  refine wp_skip ?_
  refine hK2 _ _ ?_
  refine wp_seq_k fun K4 hK4 => ?_
  have Wd : Keep (Blk w1.drew d 31 (wtA n (.slice (some ⟨b, off, none⟩) 1 cap))) := ⟨W1.out⟩
  have Bd : Keep (Below w.heap.size w w1.drew) := ⟨B1.out.drew⟩
  clear W1 B1 w0_ w1_
  have rest : ∀ (f l : Nat) (w5 : World), Blk w5 f 69 (lvA x) → Blk w5 l 69 (lvA x) → Blk w5 d 31 (wtA n (.slice (some ⟨b, off, none⟩) 1 cap)) → Below w.heap.size w w5 → K4 { tmps := #[.agg (wtA n (.slice (some ⟨b, off, none⟩) 1 cap)), .int .i64 kind, .string key, .pointer (some ⟨d, 0, none⟩), undef, undef, .bool false, .pointer (some ⟨f, 0, none⟩), .pointer (some ⟨l, 0, none⟩), undef, undef, .pointer (some ⟨d, 1, none⟩), .slice (some ⟨b, off, none⟩) 1 cap, .int .i64 1, .bool false, .pointer (some ⟨d, 1, none⟩), .slice (some ⟨b, off, none⟩) 1 cap, .pointer (some ⟨b, off, none⟩), .agg (lvA x), .pointer (some ⟨d, 1, none⟩), .slice (some ⟨b, off, none⟩) 1 cap, .pointer (some ⟨d, 1, none⟩), .slice (some ⟨b, off, none⟩) 1 cap, .int .i64 1, .int .i64 0, .pointer (some ⟨b, off, none⟩), .agg (lvA x), undef, undef, undef, undef, undef, undef, undef, undef, undef, undef, undef, undef, undef, undef, undef, undef, undef, undef, undef, undef, undef, undef, undef, undef, undef, undef, undef, undef, undef, undef, undef, undef, undef, undef, undef, undef, undef, undef, undef, undef, undef, undef, undef, undef, undef, undef, undef, undef, undef, undef, undef], defers := [] } w5 := by
    intro f l w5 hF hL hD hB5
    have F5 := Keep.mk hF
    have L5 := Keep.mk hL
    have D5 := Keep.mk hD
    have B5 := Keep.mk hB5
    clear hF hL hD hB5 Wd Bd
    refine hK4 _ _ ?_
    refine wp_seq_k fun K5 hK5 => ?_
    have Fd : Keep (Blk w5.drew f 69 (lvA x)) := ⟨F5.out⟩
    have Ld : Keep (Blk w5.drew l 69 (lvA x)) := ⟨L5.out⟩
    have Dd : Keep (Blk w5.drew d 31 (wtA n (.slice (some ⟨b, off, none⟩) 1 cap))) := ⟨D5.out⟩
    have Bd : Keep (Below w.heap.size w w5.drew) := ⟨B5.out.drew⟩
    clear F5 L5 D5 B5
    refine wp_region_held_drew (S := fun wx => wx.rangeAt f 1 (cvA x.c).toList ∧ wx.rangeAt l 1 (cvA x.c).toList) (by kernel_rfl) (⟨by have h := rng_mid (blk_range Fd.out); rw [Nat.zero_add] at h; exact h, by have h := rng_mid (blk_range Ld.out); rw [Nat.zero_add] at h; exact h⟩) (fun hHeld => ?_)
    refine wpAnyH_take (i := 0) (oi := ⟨some 27, Op.fieldAddr 69 (Operand.tmp 7) 1, 0, _, _, none⟩) (v := .pointer (some ⟨f, 1, none⟩)) rfl (by kernel_rfl) (by kernel_rfl) (by kernel_rfl) (fun _ _ _ h => h) (Or.inl ⟨by rfl, fun w hS => by obtain ⟨hS1, hS2⟩ := hS; clear hS1 hS2; go_simp⟩) hHeld ?_
    simp only [Act.put, List.setIfInBounds_toArray, List.set_cons_zero, List.set_cons_succ]
    refine wpAnyH_take (i := 2) (oi := ⟨some 29, Op.move (Operand.tmp 1), 3, _, _, none⟩) (v := .int .i64 kind) rfl (by kernel_rfl) (by kernel_rfl) (by kernel_rfl) (fun _ _ _ h => h) (Or.inl ⟨by rfl, fun w hS => by obtain ⟨hS1, hS2⟩ := hS; clear hS1 hS2; go_simp⟩) hHeld ?_
    simp only [Act.put, List.setIfInBounds_toArray, List.set_cons_zero, List.set_cons_succ]
    refine wpAnyH_take (i := 3) (oi := ⟨some 30, Op.move (Operand.tmp 2), 9, _, _, none⟩) (v := .string key) rfl (by kernel_rfl) (by kernel_rfl) (by kernel_rfl) (fun _ _ _ h => h) (Or.inl ⟨by rfl, fun w hS => by obtain ⟨hS1, hS2⟩ := hS; clear hS1 hS2; go_simp⟩) hHeld ?_
    simp only [Act.put, List.setIfInBounds_toArray, List.set_cons_zero, List.set_cons_succ]
    refine wpAnyH_take (i := 6) (oi := ⟨some 33, Op.fieldAddr 69 (Operand.tmp 8) 1, 0, _, _, none⟩) (v := .pointer (some ⟨l, 1, none⟩)) rfl (by kernel_rfl) (by kernel_rfl) (by kernel_rfl) (fun _ _ _ h => h) (Or.inl ⟨by rfl, fun w hS => by obtain ⟨hS1, hS2⟩ := hS; clear hS1 hS2; go_simp⟩) hHeld ?_
    simp only [Act.put, List.setIfInBounds_toArray, List.set_cons_zero, List.set_cons_succ]
    refine wpAnyH_take (i := 8) (oi := ⟨some 35, Op.move (Operand.tmp 1), 3, _, _, none⟩) (v := .int .i64 kind) rfl (by kernel_rfl) (by kernel_rfl) (by kernel_rfl) (fun _ _ _ h => h) (Or.inl ⟨by rfl, fun w hS => by obtain ⟨hS1, hS2⟩ := hS; clear hS1 hS2; go_simp⟩) hHeld ?_
    simp only [Act.put, List.setIfInBounds_toArray, List.set_cons_zero, List.set_cons_succ]
    refine wpAnyH_take (i := 9) (oi := ⟨some 36, Op.move (Operand.tmp 2), 9, _, _, none⟩) (v := .string key) rfl (by kernel_rfl) (by kernel_rfl) (by kernel_rfl) (fun _ _ _ h => h) (Or.inl ⟨by rfl, fun w hS => by obtain ⟨hS1, hS2⟩ := hS; clear hS1 hS2; go_simp⟩) hHeld ?_
    simp only [Act.put, List.setIfInBounds_toArray, List.set_cons_zero, List.set_cons_succ]
    refine wpAnyH_take (i := 1) (oi := ⟨some 28, Op.load 40 (Operand.tmp 27), 40, _, _, none⟩) (v := .agg (cvA x.c)) rfl (by kernel_rfl) (by kernel_rfl) (by kernel_rfl) (fun _ _ _ h => h) (yieldsIf_ld (by rfl) (Operand.tmp 27) 40 rfl f 1 rfl (cvA x.c) _ Try.underlying40 rfl (Try.sizeC _ _ _) fun w hS => hS.1) hHeld ?_
    simp only [Act.put, List.setIfInBounds_toArray, List.set_cons_zero, List.set_cons_succ]
    refine wpAnyH_take (i := 7) (oi := ⟨some 34, Op.load 40 (Operand.tmp 33), 40, _, _, none⟩) (v := .agg (cvA x.c)) rfl (by kernel_rfl) (by kernel_rfl) (by kernel_rfl) (fun _ _ _ h => h) (yieldsIf_ld (by rfl) (Operand.tmp 33) 40 rfl l 1 rfl (cvA x.c) _ Try.underlying40 rfl (Try.sizeC _ _ _) fun w hS => hS.2) hHeld ?_
    simp only [Act.put, List.setIfInBounds_toArray, List.set_cons_zero, List.set_cons_succ]
    refine wpAnyH_ready (rs := [4]) (by kernel_rfl) (by simp) ?_
    refine AllReadyH.cons (o := ⟨some 31, Op.call { callee := Callee.value (Operand.func 46), args := #[Operand.tmp 28, Operand.tmp 29, Operand.tmp 30], argTypes := #[40, 3, 9] }, 3, _, _, none⟩) rfl (fun K hK => ?_) AllReadyH.nil
    rw [if_pos (by rfl)]
    refine wp_callF 46 _ _ rfl Try.in46 #[.agg (cvA x.c), .int .i64 kind, .string key] (by simp [Act.eval]) (fun vz wz => vz = .int .i64 s ∧ Below w5.drew.heap.size w5.drew wz) ?_ ?_
    · refine (stands_any x.c.k kind x.c.s key x.c.v w5.drew).mono ?_
      rintro e wz ⟨rfl, k1⟩
      exact ⟨_, rfl, by rw [hs.out]; rfl, k1⟩
    rintro vz w6 ⟨rfl, k1⟩
    have F6 := Keep.mk (Fd.out.below k1 Fd.out.lt)
    have L6 := Keep.mk (Ld.out.below k1 Ld.out.lt)
    have D6 := Keep.mk (Dd.out.below k1 Dd.out.lt)
    have B6 : Keep (Below w.heap.size w w6) := ⟨Bd.out.trans (k1.mono Bd.out.size)⟩
    clear k1 Fd Ld Dd Bd
    refine hK _ _ (⟨by have h := rng_mid (blk_range F6.out); rw [Nat.zero_add] at h; exact h, by have h := rng_mid (blk_range L6.out); rw [Nat.zero_add] at h; exact h⟩) fun hH_ => ?_
    clear hK
    simp only [Act.put, List.setIfInBounds_toArray, List.set_cons_zero, List.set_cons_succ]
    refine wpAnyH_take (i := 5) (oi := ⟨some 32, Op.binOp BinOp.lss 3 (Operand.tmp 31) (Operand.const (Value.int IntKind.i64 0)) 3, 4, _, _, none⟩) (v := .bool (decide (s < 0))) rfl (by kernel_rfl) (by kernel_rfl) (by kernel_rfl) (fun _ _ _ h => h) (Or.inl ⟨by rfl, fun w hS => by obtain ⟨hS1, hS2⟩ := hS; clear hS1 hS2; go_simp⟩) hH_ ?_
    simp only [Act.put, List.setIfInBounds_toArray, List.set_cons_zero, List.set_cons_succ]
    refine wpAnyH_ready (rs := [10]) (by kernel_rfl) (by simp) ?_
    refine AllReadyH.cons (o := ⟨some 37, Op.call { callee := Callee.value (Operand.func 46), args := #[Operand.tmp 34, Operand.tmp 35, Operand.tmp 36], argTypes := #[40, 3, 9] }, 3, _, _, none⟩) rfl (fun K hK => ?_) AllReadyH.nil
    rw [if_pos (by rfl)]
    refine wp_callF 46 _ _ rfl Try.in46 #[.agg (cvA x.c), .int .i64 kind, .string key] (by simp [Act.eval]) (fun vz wz => vz = .int .i64 s ∧ Below w6.heap.size w6 wz) ?_ ?_
    · refine (stands_any x.c.k kind x.c.s key x.c.v w6).mono ?_
      rintro e wz ⟨rfl, k1⟩
      exact ⟨_, rfl, by rw [hs.out]; rfl, k1⟩
    rintro vz w7 ⟨rfl, k1⟩
    have F7 := Keep.mk (F6.out.below k1 F6.out.lt)
    have L7 := Keep.mk (L6.out.below k1 L6.out.lt)
    have D7 := Keep.mk (D6.out.below k1 D6.out.lt)
    have B7 : Keep (Below w.heap.size w w7) := ⟨B6.out.trans (k1.mono B6.out.size)⟩
    clear k1 F6 L6 D6 B6
    refine hK _ _ (⟨by have h := rng_mid (blk_range F7.out); rw [Nat.zero_add] at h; exact h, by have h := rng_mid (blk_range L7.out); rw [Nat.zero_add] at h; exact h⟩) fun hH_ => ?_
    clear hK
    simp only [Act.put, List.setIfInBounds_toArray, List.set_cons_zero, List.set_cons_succ]
    refine wpAnyH_take (i := 11) (oi := ⟨some 38, Op.binOp BinOp.gtr 3 (Operand.tmp 37) (Operand.const (Value.int IntKind.i64 0)) 3, 4, _, _, none⟩) (v := .bool (decide (0 < s))) rfl (by kernel_rfl) (by kernel_rfl) (by kernel_rfl) (fun _ _ _ h => h) (Or.inl ⟨by rfl, fun w hS => by obtain ⟨hS1, hS2⟩ := hS; clear hS1 hS2; go_simp⟩) hH_ ?_
    simp only [Act.put, List.setIfInBounds_toArray, List.set_cons_zero, List.set_cons_succ]
    refine wpAnyH_take (i := 12) (oi := ⟨some 9, Op.assign (Operand.tmp 32), 4, _, _, none⟩) (v := .bool (decide (s < 0))) rfl (by kernel_rfl) (by kernel_rfl) (by kernel_rfl) (fun _ _ _ h => h) (Or.inl ⟨by rfl, fun w hS => by obtain ⟨hS1, hS2⟩ := hS; clear hS1 hS2; go_simp⟩) hH_ ?_
    simp only [Act.put, List.setIfInBounds_toArray, List.set_cons_zero, List.set_cons_succ]
    refine wpAnyH_take (i := 13) (oi := ⟨some 10, Op.assign (Operand.tmp 38), 4, _, _, none⟩) (v := .bool (decide (0 < s))) rfl (by kernel_rfl) (by kernel_rfl) (by kernel_rfl) (fun _ _ _ h => h) (Or.inl ⟨by rfl, fun w hS => by obtain ⟨hS1, hS2⟩ := hS; clear hS1 hS2; go_simp⟩) hH_ ?_
    simp only [Act.put, List.setIfInBounds_toArray, List.set_cons_zero, List.set_cons_succ]
    refine wpAnyH_done (by kernel_rfl) ?_ _
    refine hK5 _ _ ?_
    refine wp_seq_k fun K6 hK6 => ?_
    refine wp_seq_k fun K7 hK7 => ?_
    have w1_ : w7.cell? ⟨d, 1, none⟩ = some (.slice (some ⟨b, off, none⟩) 1 cap) := D7.out.c 1 rfl
    have w0_ : w7.cell? ⟨d, 0, none⟩ = some (.int .i64 n) := D7.out.c 0 rfl
    have f0 : w7.cell? ⟨f, 0, none⟩ = some (.int .i64 x.num) := F7.out.c 0 rfl
    have l0 : w7.cell? ⟨l, 0, none⟩ = some (.int .i64 x.num) := L7.out.c 0 rfl
    refine wp_region_list (WL.out ?_)
    refine WL.val (by kernel_rfl) (.pointer (some ⟨d, 1, none⟩)) (by go_simp) ?_
    simp only [Act.put, List.setIfInBounds_toArray, List.set_cons_zero, List.set_cons_succ]
    refine WL.val (by kernel_rfl) (.slice (some ⟨b, off, none⟩) 1 cap) (by go_simp) ?_
    simp only [Act.put, List.setIfInBounds_toArray, List.set_cons_zero, List.set_cons_succ]
    refine WL.val (by kernel_rfl) (.int .i64 1) (by go_simp) ?_
    simp only [Act.put, List.setIfInBounds_toArray, List.set_cons_zero, List.set_cons_succ]
    refine WL.val (by kernel_rfl) (.bool false) (by go_simp) ?_
    simp only [Act.put, List.setIfInBounds_toArray, List.set_cons_zero, List.set_cons_succ]
    refine WL.nil ?_
    refine hK7 _ _ ?_
    refine wp_cond_false rfl ?_
    refine wp_skip ?_
    refine hK6 _ _ ?_
    refine wp_seq_k fun K8 hK8 => ?_
    rcases Int.lt_trichotomy s 0 with hsx | hsx | hsx
    · rw [show decide (s < 0) = true from by simp; omega, show decide (0 < s) = false from by simp; omega]
      refine wp_region_list (WL.out ?_)
      refine WL.row (by kernel_rfl) 31 (.tmp 3) rfl d rfl 31 (wtA n (.slice (some ⟨b, off, none⟩) 1 cap)) _ D7.out Try.underlying31 rfl (by rfl) ?_
      simp only [Act.put, List.setIfInBounds_toArray, List.set_cons_zero, List.set_cons_succ]
      refine WL.val (by kernel_rfl) (.int .i64 kind) (by go_simp) ?_
      simp only [Act.put, List.setIfInBounds_toArray, List.set_cons_zero, List.set_cons_succ]
      refine WL.val (by kernel_rfl) (.string key) (by go_simp) ?_
      simp only [Act.put, List.setIfInBounds_toArray, List.set_cons_zero, List.set_cons_succ]
      clear w0_ w1_ f0 l0
      have htl := tell_one b off cap n kind key x w7 fun wx hb => HR.out wx (B7.out.trans (hb.mono B7.out.size))
      rw [show tellB [x] kind key = false from by unfold tellB; show decide (sgn x kind key = 0) = _; rw [← hs.out]; simp; omega] at htl
      refine WL.callF (by kernel_rfl) 38 _ _ rfl Try.in38 #[.agg (wtA n (.slice (some ⟨b, off, none⟩) 1 cap)), .int .i64 kind, .string key] (by simp [Act.eval]) ?_
      refine (htl).mono ?_
      rintro e w8 ⟨rfl, k1⟩
      refine ⟨_, rfl, ?_⟩
      have F8 := Keep.mk (F7.out.below k1 F7.out.lt)
      have D8 := Keep.mk (D7.out.below k1 D7.out.lt)
      have B8 : Keep (Below w.heap.size w w8) := ⟨B7.out.trans (k1.mono B7.out.size)⟩
      clear k1 htl
      have w0_ : w8.cell? ⟨d, 0, none⟩ = some (.int .i64 n) := D8.out.c 0 rfl
      have f0 : w8.cell? ⟨f, 0, none⟩ = some (.int .i64 x.num) := F8.out.c 0 rfl
      simp only [Act.put, List.setIfInBounds_toArray, List.set_cons_zero, List.set_cons_succ]
      refine WL.val (by kernel_rfl) (.bool false) (by go_simp) ?_
      simp only [Act.put, List.setIfInBounds_toArray, List.set_cons_zero, List.set_cons_succ]
      refine WL.val (by kernel_rfl) (.bool false) (by go_simp) ?_
      simp only [Act.put, List.setIfInBounds_toArray, List.set_cons_zero, List.set_cons_succ]
      refine WL.val (by kernel_rfl) (.bool false) (by go_simp) ?_
      simp only [Act.put, List.setIfInBounds_toArray, List.set_cons_zero, List.set_cons_succ]
      refine WL.skip (by kernel_rfl) ?_
      simp only [Act.put, List.setIfInBounds_toArray, List.set_cons_zero, List.set_cons_succ]
      refine WL.skip (by kernel_rfl) ?_
      simp only [Act.put, List.setIfInBounds_toArray, List.set_cons_zero, List.set_cons_succ]
      refine WL.skip (by kernel_rfl) ?_
      simp only [Act.put, List.setIfInBounds_toArray, List.set_cons_zero, List.set_cons_succ]
      refine WL.val (by kernel_rfl) (.bool false) (by go_simp) ?_
      simp only [Act.put, List.setIfInBounds_toArray, List.set_cons_zero, List.set_cons_succ]
      refine WL.val (by kernel_rfl) (.bool false) (by go_simp) ?_
      simp only [Act.put, List.setIfInBounds_toArray, List.set_cons_zero, List.set_cons_succ]
      refine WL.val (by kernel_rfl) (.bool false) (by go_simp) ?_
      simp only [Act.put, List.setIfInBounds_toArray, List.set_cons_zero, List.set_cons_succ]
      refine WL.val (by kernel_rfl) (.bool true) (by go_simp) ?_
      simp only [Act.put, List.setIfInBounds_toArray, List.set_cons_zero, List.set_cons_succ]
      refine WL.val (by kernel_rfl) (.bool true) (by go_simp) ?_
      simp only [Act.put, List.setIfInBounds_toArray, List.set_cons_zero, List.set_cons_succ]
      refine WL.val (by kernel_rfl) (.pointer (some ⟨f, 0, none⟩)) (by go_simp) ?_
      simp only [Act.put, List.setIfInBounds_toArray, List.set_cons_zero, List.set_cons_succ]
      refine WL.val (by kernel_rfl) (.int .i64 x.num) (by go_simp) ?_
      simp only [Act.put, List.setIfInBounds_toArray, List.set_cons_zero, List.set_cons_succ]
      refine WL.val (by kernel_rfl) (.pointer (some ⟨d, 0, none⟩)) (by go_simp) ?_
      simp only [Act.put, List.setIfInBounds_toArray, List.set_cons_zero, List.set_cons_succ]
      refine WL.val (by kernel_rfl) (.int .i64 n) (by go_simp) ?_
      simp only [Act.put, List.setIfInBounds_toArray, List.set_cons_zero, List.set_cons_succ]
      refine WL.val (by kernel_rfl) (.int .i64 (n - 1)) (by go_simp) ?_
      simp only [Act.put, List.setIfInBounds_toArray, List.set_cons_zero, List.set_cons_succ]
      refine WL.val (by kernel_rfl) (.bool (x.num == n - 1)) (by go_simp) ?_
      simp only [Act.put, List.setIfInBounds_toArray, List.set_cons_zero, List.set_cons_succ]
      refine WL.val (by kernel_rfl) (.bool (x.num == n - 1)) (by go_simp) ?_
      simp only [Act.put, List.setIfInBounds_toArray, List.set_cons_zero, List.set_cons_succ]
      refine WL.val (by kernel_rfl) (.bool (x.num == n - 1)) (by go_simp) ?_
      simp only [Act.put, List.setIfInBounds_toArray, List.set_cons_zero, List.set_cons_succ]
      refine WL.val (by kernel_rfl) (.bool (x.num == n - 1)) (by go_simp) ?_
      simp only [Act.put, List.setIfInBounds_toArray, List.set_cons_zero, List.set_cons_succ]
      refine WL.nil ?_
      refine hK8 _ _ ?_
      refine wp_ret ?_
      go_ret
      refine ⟨?_, B8.out⟩
      simp only [ansB, ← hs.out]
      have e1 : ¬ s = 0 := by omega
      have e2 : ¬ 0 < s := by omega
      have e3 : (x.num == n - 1) = decide (x.num = n - 1) := by rw [Bool.eq_iff_iff]; simp
      simp [e1, e2, hsx]
      exact e3
    · rw [show decide (s < 0) = false from by simp; omega, show decide (0 < s) = false from by simp; omega]
      refine wp_region_list (WL.out ?_)
      refine WL.row (by kernel_rfl) 31 (.tmp 3) rfl d rfl 31 (wtA n (.slice (some ⟨b, off, none⟩) 1 cap)) _ D7.out Try.underlying31 rfl (by rfl) ?_
      simp only [Act.put, List.setIfInBounds_toArray, List.set_cons_zero, List.set_cons_succ]
      refine WL.val (by kernel_rfl) (.int .i64 kind) (by go_simp) ?_
      simp only [Act.put, List.setIfInBounds_toArray, List.set_cons_zero, List.set_cons_succ]
      refine WL.val (by kernel_rfl) (.string key) (by go_simp) ?_
      simp only [Act.put, List.setIfInBounds_toArray, List.set_cons_zero, List.set_cons_succ]
      clear w0_ w1_ f0 l0
      have htl := tell_one b off cap n kind key x w7 fun wx hb => HR.out wx (B7.out.trans (hb.mono B7.out.size))
      rw [show tellB [x] kind key = true from by unfold tellB; show decide (sgn x kind key = 0) = _; rw [← hs.out]; simp; omega] at htl
      refine WL.callF (by kernel_rfl) 38 _ _ rfl Try.in38 #[.agg (wtA n (.slice (some ⟨b, off, none⟩) 1 cap)), .int .i64 kind, .string key] (by simp [Act.eval]) ?_
      refine (htl).mono ?_
      rintro e w8 ⟨rfl, k1⟩
      refine ⟨_, rfl, ?_⟩
      have F8 := Keep.mk (F7.out.below k1 F7.out.lt)
      have D8 := Keep.mk (D7.out.below k1 D7.out.lt)
      have B8 : Keep (Below w.heap.size w w8) := ⟨B7.out.trans (k1.mono B7.out.size)⟩
      clear k1 htl
      have w0_ : w8.cell? ⟨d, 0, none⟩ = some (.int .i64 n) := D8.out.c 0 rfl
      have f0 : w8.cell? ⟨f, 0, none⟩ = some (.int .i64 x.num) := F8.out.c 0 rfl
      simp only [Act.put, List.setIfInBounds_toArray, List.set_cons_zero, List.set_cons_succ]
      refine WL.val (by kernel_rfl) (.bool true) (by go_simp) ?_
      simp only [Act.put, List.setIfInBounds_toArray, List.set_cons_zero, List.set_cons_succ]
      refine WL.skip (by kernel_rfl) ?_
      simp only [Act.put, List.setIfInBounds_toArray, List.set_cons_zero, List.set_cons_succ]
      refine WL.skip (by kernel_rfl) ?_
      simp only [Act.put, List.setIfInBounds_toArray, List.set_cons_zero, List.set_cons_succ]
      refine WL.skip (by kernel_rfl) ?_
      simp only [Act.put, List.setIfInBounds_toArray, List.set_cons_zero, List.set_cons_succ]
      refine WL.skip (by kernel_rfl) ?_
      simp only [Act.put, List.setIfInBounds_toArray, List.set_cons_zero, List.set_cons_succ]
      refine WL.skip (by kernel_rfl) ?_
      simp only [Act.put, List.setIfInBounds_toArray, List.set_cons_zero, List.set_cons_succ]
      refine WL.skip (by kernel_rfl) ?_
      simp only [Act.put, List.setIfInBounds_toArray, List.set_cons_zero, List.set_cons_succ]
      refine WL.val (by kernel_rfl) (.bool true) (by go_simp) ?_
      simp only [Act.put, List.setIfInBounds_toArray, List.set_cons_zero, List.set_cons_succ]
      refine WL.val (by kernel_rfl) (.bool true) (by go_simp) ?_
      simp only [Act.put, List.setIfInBounds_toArray, List.set_cons_zero, List.set_cons_succ]
      refine WL.skip (by kernel_rfl) ?_
      simp only [Act.put, List.setIfInBounds_toArray, List.set_cons_zero, List.set_cons_succ]
      refine WL.skip (by kernel_rfl) ?_
      simp only [Act.put, List.setIfInBounds_toArray, List.set_cons_zero, List.set_cons_succ]
      refine WL.skip (by kernel_rfl) ?_
      simp only [Act.put, List.setIfInBounds_toArray, List.set_cons_zero, List.set_cons_succ]
      refine WL.skip (by kernel_rfl) ?_
      simp only [Act.put, List.setIfInBounds_toArray, List.set_cons_zero, List.set_cons_succ]
      refine WL.skip (by kernel_rfl) ?_
      simp only [Act.put, List.setIfInBounds_toArray, List.set_cons_zero, List.set_cons_succ]
      refine WL.skip (by kernel_rfl) ?_
      simp only [Act.put, List.setIfInBounds_toArray, List.set_cons_zero, List.set_cons_succ]
      refine WL.skip (by kernel_rfl) ?_
      simp only [Act.put, List.setIfInBounds_toArray, List.set_cons_zero, List.set_cons_succ]
      refine WL.skip (by kernel_rfl) ?_
      simp only [Act.put, List.setIfInBounds_toArray, List.set_cons_zero, List.set_cons_succ]
      refine WL.skip (by kernel_rfl) ?_
      simp only [Act.put, List.setIfInBounds_toArray, List.set_cons_zero, List.set_cons_succ]
      refine WL.val (by kernel_rfl) (.bool true) (by go_simp) ?_
      simp only [Act.put, List.setIfInBounds_toArray, List.set_cons_zero, List.set_cons_succ]
      refine WL.val (by kernel_rfl) (.bool true) (by go_simp) ?_
      simp only [Act.put, List.setIfInBounds_toArray, List.set_cons_zero, List.set_cons_succ]
      refine WL.nil ?_
      refine hK8 _ _ ?_
      refine wp_ret ?_
      go_ret
      refine ⟨?_, B8.out⟩
      simp only [ansB, ← hs.out]
      simp [hsx]
    · rw [show decide (s < 0) = false from by simp; omega, show decide (0 < s) = true from by simp; omega]
      by_cases hx0 : x.num = 0
      · have hxb : (x.num == 0) = true := by simpa using hx0
        refine wp_region_list (WL.out ?_)
        refine WL.row (by kernel_rfl) 31 (.tmp 3) rfl d rfl 31 (wtA n (.slice (some ⟨b, off, none⟩) 1 cap)) _ D7.out Try.underlying31 rfl (by rfl) ?_
        simp only [Act.put, List.setIfInBounds_toArray, List.set_cons_zero, List.set_cons_succ]
        refine WL.val (by kernel_rfl) (.int .i64 kind) (by go_simp) ?_
        simp only [Act.put, List.setIfInBounds_toArray, List.set_cons_zero, List.set_cons_succ]
        refine WL.val (by kernel_rfl) (.string key) (by go_simp) ?_
        simp only [Act.put, List.setIfInBounds_toArray, List.set_cons_zero, List.set_cons_succ]
        clear w0_ w1_ f0 l0
        have htl := tell_one b off cap n kind key x w7 fun wx hb => HR.out wx (B7.out.trans (hb.mono B7.out.size))
        rw [show tellB [x] kind key = false from by unfold tellB; show decide (sgn x kind key = 0) = _; rw [← hs.out]; simp; omega] at htl
        refine WL.callF (by kernel_rfl) 38 _ _ rfl Try.in38 #[.agg (wtA n (.slice (some ⟨b, off, none⟩) 1 cap)), .int .i64 kind, .string key] (by simp [Act.eval]) ?_
        refine (htl).mono ?_
        rintro e w8 ⟨rfl, k1⟩
        refine ⟨_, rfl, ?_⟩
        have F8 := Keep.mk (F7.out.below k1 F7.out.lt)
        have D8 := Keep.mk (D7.out.below k1 D7.out.lt)
        have B8 : Keep (Below w.heap.size w w8) := ⟨B7.out.trans (k1.mono B7.out.size)⟩
        clear k1 htl
        have w0_ : w8.cell? ⟨d, 0, none⟩ = some (.int .i64 n) := D8.out.c 0 rfl
        have f0 : w8.cell? ⟨f, 0, none⟩ = some (.int .i64 x.num) := F8.out.c 0 rfl
        simp only [Act.put, List.setIfInBounds_toArray, List.set_cons_zero, List.set_cons_succ]
        refine WL.val (by kernel_rfl) (.bool false) (by go_simp) ?_
        simp only [Act.put, List.setIfInBounds_toArray, List.set_cons_zero, List.set_cons_succ]
        refine WL.val (by kernel_rfl) (.bool true) (by go_simp) ?_
        simp only [Act.put, List.setIfInBounds_toArray, List.set_cons_zero, List.set_cons_succ]
        refine WL.val (by kernel_rfl) (.bool true) (by go_simp) ?_
        simp only [Act.put, List.setIfInBounds_toArray, List.set_cons_zero, List.set_cons_succ]
        refine WL.val (by kernel_rfl) (.pointer (some ⟨f, 0, none⟩)) (by go_simp) ?_
        simp only [Act.put, List.setIfInBounds_toArray, List.set_cons_zero, List.set_cons_succ]
        refine WL.val (by kernel_rfl) (.int .i64 x.num) (by go_simp) ?_
        simp only [Act.put, List.setIfInBounds_toArray, List.set_cons_zero, List.set_cons_succ]
        refine WL.val (by kernel_rfl) (.bool true) (by go_simp) ?_
        simp only [Act.put, List.setIfInBounds_toArray, List.set_cons_zero, List.set_cons_succ]
        refine WL.val (by kernel_rfl) (.bool true) (by go_simp) ?_
        simp only [Act.put, List.setIfInBounds_toArray, List.set_cons_zero, List.set_cons_succ]
        refine WL.val (by kernel_rfl) (.bool true) (by go_simp) ?_
        simp only [Act.put, List.setIfInBounds_toArray, List.set_cons_zero, List.set_cons_succ]
        refine WL.val (by kernel_rfl) (.bool true) (by go_simp) ?_
        simp only [Act.put, List.setIfInBounds_toArray, List.set_cons_zero, List.set_cons_succ]
        refine WL.skip (by kernel_rfl) ?_
        simp only [Act.put, List.setIfInBounds_toArray, List.set_cons_zero, List.set_cons_succ]
        refine WL.skip (by kernel_rfl) ?_
        simp only [Act.put, List.setIfInBounds_toArray, List.set_cons_zero, List.set_cons_succ]
        refine WL.skip (by kernel_rfl) ?_
        simp only [Act.put, List.setIfInBounds_toArray, List.set_cons_zero, List.set_cons_succ]
        refine WL.skip (by kernel_rfl) ?_
        simp only [Act.put, List.setIfInBounds_toArray, List.set_cons_zero, List.set_cons_succ]
        refine WL.skip (by kernel_rfl) ?_
        simp only [Act.put, List.setIfInBounds_toArray, List.set_cons_zero, List.set_cons_succ]
        refine WL.skip (by kernel_rfl) ?_
        simp only [Act.put, List.setIfInBounds_toArray, List.set_cons_zero, List.set_cons_succ]
        refine WL.skip (by kernel_rfl) ?_
        simp only [Act.put, List.setIfInBounds_toArray, List.set_cons_zero, List.set_cons_succ]
        refine WL.skip (by kernel_rfl) ?_
        simp only [Act.put, List.setIfInBounds_toArray, List.set_cons_zero, List.set_cons_succ]
        refine WL.skip (by kernel_rfl) ?_
        simp only [Act.put, List.setIfInBounds_toArray, List.set_cons_zero, List.set_cons_succ]
        refine WL.val (by kernel_rfl) (.bool true) (by go_simp) ?_
        simp only [Act.put, List.setIfInBounds_toArray, List.set_cons_zero, List.set_cons_succ]
        refine WL.val (by kernel_rfl) (.bool true) (by go_simp) ?_
        simp only [Act.put, List.setIfInBounds_toArray, List.set_cons_zero, List.set_cons_succ]
        refine WL.nil ?_
        refine hK8 _ _ ?_
        refine wp_ret ?_
        go_ret
        refine ⟨?_, B8.out⟩
        simp only [ansB, ← hs.out]
        simp [hsx, hx0]
      · have hxb : (x.num == 0) = false := by simpa using hx0
        refine wp_region_list (WL.out ?_)
        refine WL.row (by kernel_rfl) 31 (.tmp 3) rfl d rfl 31 (wtA n (.slice (some ⟨b, off, none⟩) 1 cap)) _ D7.out Try.underlying31 rfl (by rfl) ?_
        simp only [Act.put, List.setIfInBounds_toArray, List.set_cons_zero, List.set_cons_succ]
        refine WL.val (by kernel_rfl) (.int .i64 kind) (by go_simp) ?_
        simp only [Act.put, List.setIfInBounds_toArray, List.set_cons_zero, List.set_cons_succ]
        refine WL.val (by kernel_rfl) (.string key) (by go_simp) ?_
        simp only [Act.put, List.setIfInBounds_toArray, List.set_cons_zero, List.set_cons_succ]
        clear w0_ w1_ f0 l0
        have htl := tell_one b off cap n kind key x w7 fun wx hb => HR.out wx (B7.out.trans (hb.mono B7.out.size))
        rw [show tellB [x] kind key = false from by unfold tellB; show decide (sgn x kind key = 0) = _; rw [← hs.out]; simp; omega] at htl
        refine WL.callF (by kernel_rfl) 38 _ _ rfl Try.in38 #[.agg (wtA n (.slice (some ⟨b, off, none⟩) 1 cap)), .int .i64 kind, .string key] (by simp [Act.eval]) ?_
        refine (htl).mono ?_
        rintro e w8 ⟨rfl, k1⟩
        refine ⟨_, rfl, ?_⟩
        have F8 := Keep.mk (F7.out.below k1 F7.out.lt)
        have D8 := Keep.mk (D7.out.below k1 D7.out.lt)
        have B8 : Keep (Below w.heap.size w w8) := ⟨B7.out.trans (k1.mono B7.out.size)⟩
        clear k1 htl
        have w0_ : w8.cell? ⟨d, 0, none⟩ = some (.int .i64 n) := D8.out.c 0 rfl
        have f0 : w8.cell? ⟨f, 0, none⟩ = some (.int .i64 x.num) := F8.out.c 0 rfl
        simp only [Act.put, List.setIfInBounds_toArray, List.set_cons_zero, List.set_cons_succ]
        refine WL.val (by kernel_rfl) (.bool false) (by go_simp) ?_
        simp only [Act.put, List.setIfInBounds_toArray, List.set_cons_zero, List.set_cons_succ]
        refine WL.val (by kernel_rfl) (.bool true) (by go_simp) ?_
        simp only [Act.put, List.setIfInBounds_toArray, List.set_cons_zero, List.set_cons_succ]
        refine WL.val (by kernel_rfl) (.bool true) (by go_simp) ?_
        simp only [Act.put, List.setIfInBounds_toArray, List.set_cons_zero, List.set_cons_succ]
        refine WL.val (by kernel_rfl) (.pointer (some ⟨f, 0, none⟩)) (by go_simp) ?_
        simp only [Act.put, List.setIfInBounds_toArray, List.set_cons_zero, List.set_cons_succ]
        refine WL.val (by kernel_rfl) (.int .i64 x.num) (by go_simp) ?_
        simp only [Act.put, List.setIfInBounds_toArray, List.set_cons_zero, List.set_cons_succ]
        refine WL.val (by kernel_rfl) (.bool false) (by go_simp) ?_
        simp only [Act.put, List.setIfInBounds_toArray, List.set_cons_zero, List.set_cons_succ]
        refine WL.val (by kernel_rfl) (.bool false) (by go_simp) ?_
        simp only [Act.put, List.setIfInBounds_toArray, List.set_cons_zero, List.set_cons_succ]
        refine WL.val (by kernel_rfl) (.bool false) (by go_simp) ?_
        simp only [Act.put, List.setIfInBounds_toArray, List.set_cons_zero, List.set_cons_succ]
        refine WL.val (by kernel_rfl) (.bool false) (by go_simp) ?_
        simp only [Act.put, List.setIfInBounds_toArray, List.set_cons_zero, List.set_cons_succ]
        refine WL.val (by kernel_rfl) (.bool false) (by go_simp) ?_
        simp only [Act.put, List.setIfInBounds_toArray, List.set_cons_zero, List.set_cons_succ]
        refine WL.val (by kernel_rfl) (.bool false) (by go_simp) ?_
        simp only [Act.put, List.setIfInBounds_toArray, List.set_cons_zero, List.set_cons_succ]
        refine WL.skip (by kernel_rfl) ?_
        simp only [Act.put, List.setIfInBounds_toArray, List.set_cons_zero, List.set_cons_succ]
        refine WL.skip (by kernel_rfl) ?_
        simp only [Act.put, List.setIfInBounds_toArray, List.set_cons_zero, List.set_cons_succ]
        refine WL.skip (by kernel_rfl) ?_
        simp only [Act.put, List.setIfInBounds_toArray, List.set_cons_zero, List.set_cons_succ]
        refine WL.skip (by kernel_rfl) ?_
        simp only [Act.put, List.setIfInBounds_toArray, List.set_cons_zero, List.set_cons_succ]
        refine WL.skip (by kernel_rfl) ?_
        simp only [Act.put, List.setIfInBounds_toArray, List.set_cons_zero, List.set_cons_succ]
        refine WL.skip (by kernel_rfl) ?_
        simp only [Act.put, List.setIfInBounds_toArray, List.set_cons_zero, List.set_cons_succ]
        refine WL.val (by kernel_rfl) (.bool false) (by go_simp) ?_
        simp only [Act.put, List.setIfInBounds_toArray, List.set_cons_zero, List.set_cons_succ]
        refine WL.val (by kernel_rfl) (.bool false) (by go_simp) ?_
        simp only [Act.put, List.setIfInBounds_toArray, List.set_cons_zero, List.set_cons_succ]
        refine WL.val (by kernel_rfl) (.bool false) (by go_simp) ?_
        simp only [Act.put, List.setIfInBounds_toArray, List.set_cons_zero, List.set_cons_succ]
        refine WL.nil ?_
        refine hK8 _ _ ?_
        refine wp_ret ?_
        go_ret
        refine ⟨?_, B8.out⟩
        simp only [ansB, ← hs.out]
        have e1 : ¬ s = 0 := by omega
        have e2 : ¬ s < 0 := by omega
        simp [e1, e2, hx0]
  have hS0 : Keep (∀ wx : World, Below w.heap.size w wx → Blk wx d 31 (wtA n (.slice (some ⟨b, off, none⟩) 1 cap)) → (fun wx => wx.cell? ⟨d, 1, none⟩ = some (.slice (some ⟨b, off, none⟩) 1 cap) ∧ wx.rangeAt b off (lvA x).toList ∧ wx.rangeAt b (off) (lvA x).toList) wx) := ⟨fun wx hb hd => ⟨hd.c 1 rfl, HR.out wx hb, HR2.out wx hb⟩⟩
  refine wp_region_held_drew (S := fun wx => wx.cell? ⟨d, 1, none⟩ = some (.slice (some ⟨b, off, none⟩) 1 cap) ∧ wx.rangeAt b off (lvA x).toList ∧ wx.rangeAt b (off) (lvA x).toList) (by kernel_rfl) (hS0.out _ Bd.out Wd.out) (fun hH0 => ?_)
  generalize w1.drew = w2 at *
  refine wpAnyH_take (i := 0) (oi := ⟨some 15, Op.fieldAddr 31 (Operand.tmp 3) 1, 0, _, _, none⟩) (v := .pointer (some ⟨d, 1, none⟩)) rfl (by kernel_rfl) (by kernel_rfl) (by kernel_rfl) (fun _ _ _ h => h) (Or.inl ⟨by rfl, fun w hS => by obtain ⟨hS1, hS2, hS3⟩ := hS; clear hS2 hS3; go_simp⟩) hH0 ?_
  simp only [Act.put, List.setIfInBounds_toArray, List.set_cons_zero, List.set_cons_succ]
  refine wpAnyH_take (i := 4) (oi := ⟨some 19, Op.fieldAddr 31 (Operand.tmp 3) 1, 0, _, _, none⟩) (v := .pointer (some ⟨d, 1, none⟩)) rfl (by kernel_rfl) (by kernel_rfl) (by kernel_rfl) (fun _ _ _ h => h) (Or.inl ⟨by rfl, fun w hS => by obtain ⟨hS1, hS2, hS3⟩ := hS; clear hS2 hS3; go_simp⟩) hH0 ?_
  simp only [Act.put, List.setIfInBounds_toArray, List.set_cons_zero, List.set_cons_succ]
  refine wpAnyH_take (i := 6) (oi := ⟨some 21, Op.fieldAddr 31 (Operand.tmp 3) 1, 0, _, _, none⟩) (v := .pointer (some ⟨d, 1, none⟩)) rfl (by kernel_rfl) (by kernel_rfl) (by kernel_rfl) (fun _ _ _ h => h) (Or.inl ⟨by rfl, fun w hS => by obtain ⟨hS1, hS2, hS3⟩ := hS; clear hS2 hS3; go_simp⟩) hH0 ?_
  simp only [Act.put, List.setIfInBounds_toArray, List.set_cons_zero, List.set_cons_succ]
  refine wpAnyH_take (i := 1) (oi := ⟨some 16, Op.load 29 (Operand.tmp 15), 29, _, _, none⟩) (v := .slice (some ⟨b, off, none⟩) 1 cap) rfl (by kernel_rfl) (by kernel_rfl) (by kernel_rfl) (fun _ _ _ h => h) (Or.inl ⟨by rfl, fun w hS => by obtain ⟨hS1, hS2, hS3⟩ := hS; clear hS2 hS3; go_simp⟩) hH0 ?_
  simp only [Act.put, List.setIfInBounds_toArray, List.set_cons_zero, List.set_cons_succ]
  refine wpAnyH_take (i := 5) (oi := ⟨some 20, Op.load 29 (Operand.tmp 19), 29, _, _, none⟩) (v := .slice (some ⟨b, off, none⟩) 1 cap) rfl (by kernel_rfl) (by kernel_rfl) (by kernel_rfl) (fun _ _ _ h => h) (Or.inl ⟨by rfl, fun w hS => by obtain ⟨hS1, hS2, hS3⟩ := hS; clear hS2 hS3; go_simp⟩) hH0 ?_
  simp only [Act.put, List.setIfInBounds_toArray, List.set_cons_zero, List.set_cons_succ]
  refine wpAnyH_take (i := 7) (oi := ⟨some 22, Op.load 29 (Operand.tmp 21), 29, _, _, none⟩) (v := .slice (some ⟨b, off, none⟩) 1 cap) rfl (by kernel_rfl) (by kernel_rfl) (by kernel_rfl) (fun _ _ _ h => h) (Or.inl ⟨by rfl, fun w hS => by obtain ⟨hS1, hS2, hS3⟩ := hS; clear hS2 hS3; go_simp⟩) hH0 ?_
  simp only [Act.put, List.setIfInBounds_toArray, List.set_cons_zero, List.set_cons_succ]
  refine wpAnyH_take (i := 2) (oi := ⟨some 17, Op.indexAddr 29 (Operand.tmp 16) (Operand.const (Value.int IntKind.i64 0)), 0, _, _, none⟩) (v := .pointer (some ⟨b, off, none⟩)) rfl (by kernel_rfl) (by kernel_rfl) (by kernel_rfl) (fun _ _ _ h => h) (Or.inl ⟨by rfl, fun w hS => by obtain ⟨hS1, hS2, hS3⟩ := hS; clear hS2 hS3; go_simp⟩) hH0 ?_
  simp only [Act.put, List.setIfInBounds_toArray, List.set_cons_zero, List.set_cons_succ]
  refine wpAnyH_take (i := 8) (oi := ⟨some 23, Op.call { callee := Callee.builtin Builtin.len, args := #[Operand.tmp 22], argTypes := #[29] }, 3, _, _, none⟩) (v := .int .i64 1) rfl (by kernel_rfl) (by kernel_rfl) (by kernel_rfl) (fun _ _ _ h => h) (Or.inl ⟨by rfl, fun w hS => by obtain ⟨hS1, hS2, hS3⟩ := hS; clear hS2 hS3; go_simp⟩) hH0 ?_
  simp only [Act.put, List.setIfInBounds_toArray, List.set_cons_zero, List.set_cons_succ]
  refine wpAnyH_take (i := 3) (oi := ⟨some 18, Op.load 69 (Operand.tmp 17), 69, _, _, none⟩) (v := .agg (lvA x)) rfl (by kernel_rfl) (by kernel_rfl) (by kernel_rfl) (fun _ _ _ h => h) (yieldsIf_ld (by rfl) (Operand.tmp 17) 69 rfl b off rfl (lvA x) _ Try.underlying69 rfl (Try.sizeLf x) fun w hS => hS.2.1) hH0 ?_
  simp only [Act.put, List.setIfInBounds_toArray, List.set_cons_zero, List.set_cons_succ]
  refine wpAnyH_take (i := 9) (oi := ⟨some 24, Op.binOp BinOp.sub 3 (Operand.tmp 23) (Operand.const (Value.int IntKind.i64 1)) 3, 3, _, _, none⟩) (v := .int .i64 0) rfl (by kernel_rfl) (by kernel_rfl) (by kernel_rfl) (fun _ _ _ h => h) (Or.inl ⟨by rfl, fun w hS => by obtain ⟨hS1, hS2, hS3⟩ := hS; clear hS2 hS3; go_simp⟩) hH0 ?_
  simp only [Act.put, List.setIfInBounds_toArray, List.set_cons_zero, List.set_cons_succ]
  refine wpAnyH_take (i := 10) (oi := ⟨some 25, Op.indexAddr 29 (Operand.tmp 20) (Operand.tmp 24), 0, _, _, none⟩) (v := .pointer (some ⟨b, off, none⟩)) rfl (by kernel_rfl) (by kernel_rfl) (by kernel_rfl) (fun _ _ _ h => h) (Or.inl ⟨by rfl, fun w hS => by obtain ⟨hS1, hS2, hS3⟩ := hS; clear hS2 hS3; go_simp⟩) hH0 ?_
  simp only [Act.put, List.setIfInBounds_toArray, List.set_cons_zero, List.set_cons_succ]
  refine wpAnyH_take (i := 11) (oi := ⟨some 26, Op.load 69 (Operand.tmp 25), 69, _, _, none⟩) (v := .agg (lvA x)) rfl (by kernel_rfl) (by kernel_rfl) (by kernel_rfl) (fun _ _ _ h => h) (yieldsIf_ld (by rfl) (Operand.tmp 25) 69 rfl b (off) rfl (lvA x) _ Try.underlying69 rfl (Try.sizeLf x) fun w hS => hS.2.2) hH0 ?_
  simp only [Act.put, List.setIfInBounds_toArray, List.set_cons_zero, List.set_cons_succ]
  refine wpAnyH_ready (rs := [12, 13]) (by kernel_rfl) (by simp) ?_
  refine AllReadyH.cons (o := ⟨some 7, Op.alloc 69, 0, _, _, none⟩) rfl (fun K hK => ?_) (AllReadyH.cons (o := ⟨some 8, Op.alloc 69, 0, _, _, none⟩) rfl (fun K hK => ?_) AllReadyH.nil)
  · rw [if_pos (by rfl)]
    refine wp_newA 69 rfl _ Try.newLf ?_
    have b_ := below_new w2 (.cells zLf 69)
    have Nf := Keep.mk (Blk.new w2 69 zLf)
    have D3 := Keep.mk (Wd.out.below b_ Wd.out.lt)
    have B3 : Keep (Below w.heap.size w _) := ⟨Bd.out.trans (b_.mono Bd.out.size)⟩
    have gf : Keep (w.heap.size ≤ w2.heap.size) := ⟨Bd.out.size⟩
    have ndf : Keep (d ≠ w2.heap.size) := ⟨by have := Wd.out.lt; omega⟩
    generalize w2.alloc (.cells zLf 69) = w3 at *
    obtain ⟨f, hf⟩ : ∃ z, Keep (z = w2.heap.size) := ⟨_, ⟨rfl⟩⟩
    rw [← hf.out] at Nf gf ndf  ⊢
    clear b_ hf
    refine hK _ _ (hS0.out _ B3.out D3.out) fun hH_ => ?_
    clear hK
    simp only [Act.put, List.setIfInBounds_toArray, List.set_cons_zero, List.set_cons_succ]
    refine wpAnyH_ready (rs := [13]) (by kernel_rfl) (by simp) ?_
    refine AllReadyH.cons (o := ⟨some 8, Op.alloc 69, 0, _, _, none⟩) rfl (fun K hK => ?_) AllReadyH.nil
    rw [if_pos (by rfl)]
    refine wp_newA 69 rfl _ Try.newLf ?_
    have b_ := below_new w3 (.cells zLf 69)
    have Nl := Keep.mk (Blk.new w3 69 zLf)
    have D4 := Keep.mk (D3.out.below b_ D3.out.lt)
    have B4 : Keep (Below w.heap.size w _) := ⟨B3.out.trans (b_.mono B3.out.size)⟩
    have gl : Keep (w.heap.size ≤ w3.heap.size) := ⟨B3.out.size⟩
    have ndl : Keep (d ≠ w3.heap.size) := ⟨by have := D3.out.lt; omega⟩
    have Nf' := Keep.mk (Nf.out.below b_ Nf.out.lt)
    have nfl : Keep (f ≠ w3.heap.size) := ⟨by have := Nf.out.lt; omega⟩
    generalize w3.alloc (.cells zLf 69) = w4 at *
    obtain ⟨l, hl⟩ : ∃ z, Keep (z = w3.heap.size) := ⟨_, ⟨rfl⟩⟩
    rw [← hl.out] at Nl gl ndl nfl ⊢
    clear b_ hl
    refine hK _ _ (hS0.out _ B4.out D4.out) fun hH_ => ?_
    clear hK
    simp only [Act.put, List.setIfInBounds_toArray, List.set_cons_zero, List.set_cons_succ]
    refine wpAnyH_ready (rs := [14]) (by kernel_rfl) (by simp) ?_
    refine AllReadyH.cons (o := ⟨none, Op.store 69 (Operand.tmp 7) (Operand.tmp 18), 0, _, _, none⟩) rfl (fun K hK => ?_) AllReadyH.nil
    rw [if_pos (by rfl)]
    refine wp_store_row 69 (.tmp 7) (.tmp 18) rfl f (lvA x) rfl rfl 69 zLf Nf'.out (Try.sizeLf x) rfl (HX1.out) ?_
    have F5 := Keep.mk (Nf'.out.setRow (lvA x))
    have L5 := Keep.mk (Nl.out.setRow_ne (Ne.symm nfl.out) (lvA x))
    have D5 := Keep.mk (D4.out.setRow_ne ndf.out (lvA x))
    have B5 : Keep (Below w.heap.size w (w4.setRow f (lvA x))) := ⟨below_setRow B4.out gf.out _⟩
    generalize w4.setRow f (lvA x) = w5 at *
    refine hK _ _ (hS0.out _ B5.out D5.out) fun hH_ => ?_
    clear hK
    simp only [Act.put]
    refine wpAnyH_ready (rs := [15]) (by kernel_rfl) (by simp) ?_
    refine AllReadyH.cons (o := ⟨none, Op.store 69 (Operand.tmp 8) (Operand.tmp 26), 0, _, _, none⟩) rfl (fun K hK => ?_) AllReadyH.nil
    rw [if_pos (by rfl)]
    refine wp_store_row 69 (.tmp 8) (.tmp 26) rfl l (lvA x) rfl rfl 69 zLf L5.out (Try.sizeLf x) rfl (HY1.out) ?_
    have L6 := Keep.mk (L5.out.setRow (lvA x))
    have F6 := Keep.mk (F5.out.setRow_ne nfl.out (lvA x))
    have D6 := Keep.mk (D5.out.setRow_ne ndl.out (lvA x))
    have B6 : Keep (Below w.heap.size w (w5.setRow l (lvA x))) := ⟨below_setRow B5.out gl.out _⟩
    generalize w5.setRow l (lvA x) = w6 at *
    refine hK _ _ (hS0.out _ B6.out D6.out) fun hH_ => ?_
    clear hK
    simp only [Act.put]
    refine wpAnyH_done (by kernel_rfl) ?_ _
    exact rest f l w6 F6.out L6.out D6.out B6.out
  · rw [if_pos (by rfl)]
    refine wp_newA 69 rfl _ Try.newLf ?_
    have b_ := below_new w2 (.cells zLf 69)
    have Nl := Keep.mk (Blk.new w2 69 zLf)
    have D3 := Keep.mk (Wd.out.below b_ Wd.out.lt)
    have B3 : Keep (Below w.heap.size w _) := ⟨Bd.out.trans (b_.mono Bd.out.size)⟩
    have gl : Keep (w.heap.size ≤ w2.heap.size) := ⟨Bd.out.size⟩
    have ndl : Keep (d ≠ w2.heap.size) := ⟨by have := Wd.out.lt; omega⟩
    generalize w2.alloc (.cells zLf 69) = w3 at *
    obtain ⟨l, hl⟩ : ∃ z, Keep (z = w2.heap.size) := ⟨_, ⟨rfl⟩⟩
    rw [← hl.out] at Nl gl ndl  ⊢
    clear b_ hl
    refine hK _ _ (hS0.out _ B3.out D3.out) fun hH_ => ?_
    clear hK
    simp only [Act.put, List.setIfInBounds_toArray, List.set_cons_zero, List.set_cons_succ]
    refine wpAnyH_ready (rs := [12]) (by kernel_rfl) (by simp) ?_
    refine AllReadyH.cons (o := ⟨some 7, Op.alloc 69, 0, _, _, none⟩) rfl (fun K hK => ?_) AllReadyH.nil
    rw [if_pos (by rfl)]
    refine wp_newA 69 rfl _ Try.newLf ?_
    have b_ := below_new w3 (.cells zLf 69)
    have Nf := Keep.mk (Blk.new w3 69 zLf)
    have D4 := Keep.mk (D3.out.below b_ D3.out.lt)
    have B4 : Keep (Below w.heap.size w _) := ⟨B3.out.trans (b_.mono B3.out.size)⟩
    have gf : Keep (w.heap.size ≤ w3.heap.size) := ⟨B3.out.size⟩
    have ndf : Keep (d ≠ w3.heap.size) := ⟨by have := D3.out.lt; omega⟩
    have Nl' := Keep.mk (Nl.out.below b_ Nl.out.lt)
    have nfl : Keep (l ≠ w3.heap.size) := ⟨by have := Nl.out.lt; omega⟩
    generalize w3.alloc (.cells zLf 69) = w4 at *
    obtain ⟨f, hf⟩ : ∃ z, Keep (z = w3.heap.size) := ⟨_, ⟨rfl⟩⟩
    rw [← hf.out] at Nf gf ndf nfl ⊢
    clear b_ hf
    refine hK _ _ (hS0.out _ B4.out D4.out) fun hH_ => ?_
    clear hK
    simp only [Act.put, List.setIfInBounds_toArray, List.set_cons_zero, List.set_cons_succ]
    refine wpAnyH_ready (rs := [14]) (by kernel_rfl) (by simp) ?_
    refine AllReadyH.cons (o := ⟨none, Op.store 69 (Operand.tmp 7) (Operand.tmp 18), 0, _, _, none⟩) rfl (fun K hK => ?_) AllReadyH.nil
    rw [if_pos (by rfl)]
    refine wp_store_row 69 (.tmp 7) (.tmp 18) rfl f (lvA x) rfl rfl 69 zLf Nf.out (Try.sizeLf x) rfl (HX1.out) ?_
    have F5 := Keep.mk (Nf.out.setRow (lvA x))
    have L5 := Keep.mk (Nl'.out.setRow_ne (Ne.symm (Ne.symm nfl.out)) (lvA x))
    have D5 := Keep.mk (D4.out.setRow_ne ndf.out (lvA x))
    have B5 : Keep (Below w.heap.size w (w4.setRow f (lvA x))) := ⟨below_setRow B4.out gf.out _⟩
    generalize w4.setRow f (lvA x) = w5 at *
    refine hK _ _ (hS0.out _ B5.out D5.out) fun hH_ => ?_
    clear hK
    simp only [Act.put]
    refine wpAnyH_ready (rs := [15]) (by kernel_rfl) (by simp) ?_
    refine AllReadyH.cons (o := ⟨none, Op.store 69 (Operand.tmp 8) (Operand.tmp 26), 0, _, _, none⟩) rfl (fun K hK => ?_) AllReadyH.nil
    rw [if_pos (by rfl)]
    refine wp_store_row 69 (.tmp 8) (.tmp 26) rfl l (lvA x) rfl rfl 69 zLf L5.out (Try.sizeLf x) rfl (HY1.out) ?_
    have L6 := Keep.mk (L5.out.setRow (lvA x))
    have F6 := Keep.mk (F5.out.setRow_ne (Ne.symm nfl.out) (lvA x))
    have D6 := Keep.mk (D5.out.setRow_ne ndl.out (lvA x))
    have B6 : Keep (Below w.heap.size w (w5.setRow l (lvA x))) := ⟨below_setRow B5.out gl.out _⟩
    generalize w5.setRow l (lvA x) = w6 at *
    refine hK _ _ (hS0.out _ B6.out D6.out) fun hH_ => ?_
    clear hK
    simp only [Act.put]
    refine wpAnyH_done (by kernel_rfl) ?_ _
    exact rest f l w6 F6.out L6.out D6.out B6.out
set_option maxRecDepth 8000 in
set_option maxHeartbeats 1000000 in
theorem ans_two (b off cap : Nat) (n kind : Int) (key : ByteArray) (x y : LV) (w : World) (s : Int) (hs : Keep (s = sgn x kind key)) (r : Int) (hr : Keep (r = sgn y kind key)) (hn : 1 ≤ n ∧ n ≤ 9223372036854775807) (hx : 0 ≤ x.num ∧ x.num < n) (hL : LsAt w.heap.size w b off [x, y]) : Calls Try.prog 36 #[.agg (wtA n (.slice (some ⟨b, off, none⟩) 2 cap)), .int .i64 kind, .string key] w fun e w' => e = .returned (.bool (ansB n [x, y] kind key)) ∧ Below w.heap.size w w' := by
  have HR : Keep (∀ wx, Below w.heap.size w wx → wx.rangeAt b off (lvA x).toList) := ⟨fun wx hb => by have h := (hL.below hb).at_ 0 x rfl; simpa using h⟩
  have HR2 : Keep (∀ wx, Below w.heap.size w wx → wx.rangeAt b (off + 5) (lvA y).toList) := ⟨fun wx hb => by have h := (hL.below hb).at_ 1 y rfl; simpa using h⟩
  have HX1 : Keep ((lvA x).all (·.oneCell') = true) := ⟨lvA_one (hL.lf x (by simp))⟩
  have HY1 : Keep ((lvA y).all (·.oneCell') = true) := ⟨lvA_one (hL.lf y (by simp))⟩
  have hwn : IntKind.i64.wrap (n - 1) = n - 1 := by rw [IntKind.wrap_i64]; omega
  have hw0 : IntKind.i64.wrap 0 = 0 := by decide
  have hw1 : IntKind.i64.wrap 1 = 1 := by decide
  have hwx : IntKind.i64.wrap (x.num + 1) = x.num + 1 := by rw [IntKind.wrap_i64]; omega
  clear hL hn hx
  go_enter Try.func36, Try.ntmps36
  refine wp_seq_k fun K1 hK1 => ?_
  refine wp_region_list (WL.out ?_)
  refine WL.box (by kernel_rfl) 31 (.tmp 0) rfl (wtA n (.slice (some ⟨b, off, none⟩) 2 cap)) rfl ?_
  have W1 := Keep.mk (Blk.new w 31 (wtA n (.slice (some ⟨b, off, none⟩) 2 cap)))
  have b_ := below_new w (.cells (wtA n (.slice (some ⟨b, off, none⟩) 2 cap)) 31)
  change WL _ _ _ _ _ (w.alloc (.cells (wtA n (.slice (some ⟨b, off, none⟩) 2 cap)) 31))
  generalize w.alloc (.cells (wtA n (.slice (some ⟨b, off, none⟩) 2 cap)) 31) = w1 at *
  obtain ⟨d, hd0⟩ : ∃ z, Keep (z = w.heap.size) := ⟨_, ⟨rfl⟩⟩
  rw [← hd0.out] at W1 ⊢
  have B1 : Keep (Below w.heap.size w w1) := ⟨b_⟩
  have gd : Keep (w.heap.size ≤ d) := ⟨by rw [hd0.out]; exact Nat.le_refl _⟩
  clear b_
  have w0_ : w1.cell? ⟨d, 0, none⟩ = some (.int .i64 n) := W1.out.c 0 rfl
  have w1_ : w1.cell? ⟨d, 1, none⟩ = some (.slice (some ⟨b, off, none⟩) 2 cap) := W1.out.c 1 rfl
  simp only [Act.put, List.setIfInBounds_toArray, List.set_cons_zero, List.set_cons_succ]
  refine WL.val (by kernel_rfl) (.bool false) (by go_simp) ?_
  simp only [Act.put, List.setIfInBounds_toArray, List.set_cons_zero, List.set_cons_succ]
  refine WL.nil ?_
  refine hK1 _ _ ?_
  refine wp_seq_k fun K2 hK2 => ?_
  refine wp_seq_k fun K3 hK3 => ?_
  refine wp_region_list (WL.out ?_)
  refine WL.val (by kernel_rfl) (.pointer (some ⟨d, 1, none⟩)) (by go_simp) ?_
  simp only [Act.put, List.setIfInBounds_toArray, List.set_cons_zero, List.set_cons_succ]
  refine WL.val (by kernel_rfl) (.slice (some ⟨b, off, none⟩) 2 cap) (by go_simp) ?_
  simp only [Act.put, List.setIfInBounds_toArray, List.set_cons_zero, List.set_cons_succ]
  refine WL.val (by kernel_rfl) (.int .i64 2) (by go_simp) ?_
  simp only [Act.put, List.setIfInBounds_toArray, List.set_cons_zero, List.set_cons_succ]
  refine WL.val (by kernel_rfl) (.bool false) (by go_simp) ?_
  simp only [Act.put, List.setIfInBounds_toArray, List.set_cons_zero, List.set_cons_succ]
  refine WL.nil ?_
  refine hK3 _ _ ?_
  refine wp_cond_false rfl ?_
  refine wp_skip ?_
  refine hK2 _ _ ?_
  refine wp_seq_k fun K4 hK4 => ?_
  have Wd : Keep (Blk w1.drew d 31 (wtA n (.slice (some ⟨b, off, none⟩) 2 cap))) := ⟨W1.out⟩
  have Bd : Keep (Below w.heap.size w w1.drew) := ⟨B1.out.drew⟩
  clear W1 B1 w0_ w1_
  have rest : ∀ (f l : Nat) (w5 : World), Blk w5 f 69 (lvA x) → Blk w5 l 69 (lvA y) → Blk w5 d 31 (wtA n (.slice (some ⟨b, off, none⟩) 2 cap)) → Below w.heap.size w w5 → K4 { tmps := #[.agg (wtA n (.slice (some ⟨b, off, none⟩) 2 cap)), .int .i64 kind, .string key, .pointer (some ⟨d, 0, none⟩), undef, undef, .bool false, .pointer (some ⟨f, 0, none⟩), .pointer (some ⟨l, 0, none⟩), undef, undef, .pointer (some ⟨d, 1, none⟩), .slice (some ⟨b, off, none⟩) 2 cap, .int .i64 2, .bool false, .pointer (some ⟨d, 1, none⟩), .slice (some ⟨b, off, none⟩) 2 cap, .pointer (some ⟨b, off, none⟩), .agg (lvA x), .pointer (some ⟨d, 1, none⟩), .slice (some ⟨b, off, none⟩) 2 cap, .pointer (some ⟨d, 1, none⟩), .slice (some ⟨b, off, none⟩) 2 cap, .int .i64 2, .int .i64 1, .pointer (some ⟨b, off + 5, none⟩), .agg (lvA y), undef, undef, undef, undef, undef, undef, undef, undef, undef, undef, undef, undef, undef, undef, undef, undef, undef, undef, undef, undef, undef, undef, undef, undef, undef, undef, undef, undef, undef, undef, undef, undef, undef, undef, undef, undef, undef, undef, undef, undef, undef, undef, undef, undef, undef, undef, undef, undef, undef, undef, undef], defers := [] } w5 := by
    intro f l w5 hF hL hD hB5
    have F5 := Keep.mk hF
    have L5 := Keep.mk hL
    have D5 := Keep.mk hD
    have B5 := Keep.mk hB5
    clear hF hL hD hB5 Wd Bd
    refine hK4 _ _ ?_
    refine wp_seq_k fun K5 hK5 => ?_
    have Fd : Keep (Blk w5.drew f 69 (lvA x)) := ⟨F5.out⟩
    have Ld : Keep (Blk w5.drew l 69 (lvA y)) := ⟨L5.out⟩
    have Dd : Keep (Blk w5.drew d 31 (wtA n (.slice (some ⟨b, off, none⟩) 2 cap))) := ⟨D5.out⟩
    have Bd : Keep (Below w.heap.size w w5.drew) := ⟨B5.out.drew⟩
    clear F5 L5 D5 B5
    refine wp_region_held_drew (S := fun wx => wx.rangeAt f 1 (cvA x.c).toList ∧ wx.rangeAt l 1 (cvA y.c).toList) (by kernel_rfl) (⟨by have h := rng_mid (blk_range Fd.out); rw [Nat.zero_add] at h; exact h, by have h := rng_mid (blk_range Ld.out); rw [Nat.zero_add] at h; exact h⟩) (fun hHeld => ?_)
    refine wpAnyH_take (i := 0) (oi := ⟨some 27, Op.fieldAddr 69 (Operand.tmp 7) 1, 0, _, _, none⟩) (v := .pointer (some ⟨f, 1, none⟩)) rfl (by kernel_rfl) (by kernel_rfl) (by kernel_rfl) (fun _ _ _ h => h) (Or.inl ⟨by rfl, fun w hS => by obtain ⟨hS1, hS2⟩ := hS; clear hS1 hS2; go_simp⟩) hHeld ?_
    simp only [Act.put, List.setIfInBounds_toArray, List.set_cons_zero, List.set_cons_succ]
    refine wpAnyH_take (i := 2) (oi := ⟨some 29, Op.move (Operand.tmp 1), 3, _, _, none⟩) (v := .int .i64 kind) rfl (by kernel_rfl) (by kernel_rfl) (by kernel_rfl) (fun _ _ _ h => h) (Or.inl ⟨by rfl, fun w hS => by obtain ⟨hS1, hS2⟩ := hS; clear hS1 hS2; go_simp⟩) hHeld ?_
    simp only [Act.put, List.setIfInBounds_toArray, List.set_cons_zero, List.set_cons_succ]
    refine wpAnyH_take (i := 3) (oi := ⟨some 30, Op.move (Operand.tmp 2), 9, _, _, none⟩) (v := .string key) rfl (by kernel_rfl) (by kernel_rfl) (by kernel_rfl) (fun _ _ _ h => h) (Or.inl ⟨by rfl, fun w hS => by obtain ⟨hS1, hS2⟩ := hS; clear hS1 hS2; go_simp⟩) hHeld ?_
    simp only [Act.put, List.setIfInBounds_toArray, List.set_cons_zero, List.set_cons_succ]
    refine wpAnyH_take (i := 6) (oi := ⟨some 33, Op.fieldAddr 69 (Operand.tmp 8) 1, 0, _, _, none⟩) (v := .pointer (some ⟨l, 1, none⟩)) rfl (by kernel_rfl) (by kernel_rfl) (by kernel_rfl) (fun _ _ _ h => h) (Or.inl ⟨by rfl, fun w hS => by obtain ⟨hS1, hS2⟩ := hS; clear hS1 hS2; go_simp⟩) hHeld ?_
    simp only [Act.put, List.setIfInBounds_toArray, List.set_cons_zero, List.set_cons_succ]
    refine wpAnyH_take (i := 8) (oi := ⟨some 35, Op.move (Operand.tmp 1), 3, _, _, none⟩) (v := .int .i64 kind) rfl (by kernel_rfl) (by kernel_rfl) (by kernel_rfl) (fun _ _ _ h => h) (Or.inl ⟨by rfl, fun w hS => by obtain ⟨hS1, hS2⟩ := hS; clear hS1 hS2; go_simp⟩) hHeld ?_
    simp only [Act.put, List.setIfInBounds_toArray, List.set_cons_zero, List.set_cons_succ]
    refine wpAnyH_take (i := 9) (oi := ⟨some 36, Op.move (Operand.tmp 2), 9, _, _, none⟩) (v := .string key) rfl (by kernel_rfl) (by kernel_rfl) (by kernel_rfl) (fun _ _ _ h => h) (Or.inl ⟨by rfl, fun w hS => by obtain ⟨hS1, hS2⟩ := hS; clear hS1 hS2; go_simp⟩) hHeld ?_
    simp only [Act.put, List.setIfInBounds_toArray, List.set_cons_zero, List.set_cons_succ]
    refine wpAnyH_take (i := 1) (oi := ⟨some 28, Op.load 40 (Operand.tmp 27), 40, _, _, none⟩) (v := .agg (cvA x.c)) rfl (by kernel_rfl) (by kernel_rfl) (by kernel_rfl) (fun _ _ _ h => h) (yieldsIf_ld (by rfl) (Operand.tmp 27) 40 rfl f 1 rfl (cvA x.c) _ Try.underlying40 rfl (Try.sizeC _ _ _) fun w hS => hS.1) hHeld ?_
    simp only [Act.put, List.setIfInBounds_toArray, List.set_cons_zero, List.set_cons_succ]
    refine wpAnyH_take (i := 7) (oi := ⟨some 34, Op.load 40 (Operand.tmp 33), 40, _, _, none⟩) (v := .agg (cvA y.c)) rfl (by kernel_rfl) (by kernel_rfl) (by kernel_rfl) (fun _ _ _ h => h) (yieldsIf_ld (by rfl) (Operand.tmp 33) 40 rfl l 1 rfl (cvA y.c) _ Try.underlying40 rfl (Try.sizeC _ _ _) fun w hS => hS.2) hHeld ?_
    simp only [Act.put, List.setIfInBounds_toArray, List.set_cons_zero, List.set_cons_succ]
    refine wpAnyH_ready (rs := [4]) (by kernel_rfl) (by simp) ?_
    refine AllReadyH.cons (o := ⟨some 31, Op.call { callee := Callee.value (Operand.func 46), args := #[Operand.tmp 28, Operand.tmp 29, Operand.tmp 30], argTypes := #[40, 3, 9] }, 3, _, _, none⟩) rfl (fun K hK => ?_) AllReadyH.nil
    rw [if_pos (by rfl)]
    refine wp_callF 46 _ _ rfl Try.in46 #[.agg (cvA x.c), .int .i64 kind, .string key] (by simp [Act.eval]) (fun vz wz => vz = .int .i64 s ∧ Below w5.drew.heap.size w5.drew wz) ?_ ?_
    · refine (stands_any x.c.k kind x.c.s key x.c.v w5.drew).mono ?_
      rintro e wz ⟨rfl, k1⟩
      exact ⟨_, rfl, by rw [hs.out]; rfl, k1⟩
    rintro vz w6 ⟨rfl, k1⟩
    have F6 := Keep.mk (Fd.out.below k1 Fd.out.lt)
    have L6 := Keep.mk (Ld.out.below k1 Ld.out.lt)
    have D6 := Keep.mk (Dd.out.below k1 Dd.out.lt)
    have B6 : Keep (Below w.heap.size w w6) := ⟨Bd.out.trans (k1.mono Bd.out.size)⟩
    clear k1 Fd Ld Dd Bd
    refine hK _ _ (⟨by have h := rng_mid (blk_range F6.out); rw [Nat.zero_add] at h; exact h, by have h := rng_mid (blk_range L6.out); rw [Nat.zero_add] at h; exact h⟩) fun hH_ => ?_
    clear hK
    simp only [Act.put, List.setIfInBounds_toArray, List.set_cons_zero, List.set_cons_succ]
    refine wpAnyH_take (i := 5) (oi := ⟨some 32, Op.binOp BinOp.lss 3 (Operand.tmp 31) (Operand.const (Value.int IntKind.i64 0)) 3, 4, _, _, none⟩) (v := .bool (decide (s < 0))) rfl (by kernel_rfl) (by kernel_rfl) (by kernel_rfl) (fun _ _ _ h => h) (Or.inl ⟨by rfl, fun w hS => by obtain ⟨hS1, hS2⟩ := hS; clear hS1 hS2; go_simp⟩) hH_ ?_
    simp only [Act.put, List.setIfInBounds_toArray, List.set_cons_zero, List.set_cons_succ]
    refine wpAnyH_ready (rs := [10]) (by kernel_rfl) (by simp) ?_
    refine AllReadyH.cons (o := ⟨some 37, Op.call { callee := Callee.value (Operand.func 46), args := #[Operand.tmp 34, Operand.tmp 35, Operand.tmp 36], argTypes := #[40, 3, 9] }, 3, _, _, none⟩) rfl (fun K hK => ?_) AllReadyH.nil
    rw [if_pos (by rfl)]
    refine wp_callF 46 _ _ rfl Try.in46 #[.agg (cvA y.c), .int .i64 kind, .string key] (by simp [Act.eval]) (fun vz wz => vz = .int .i64 r ∧ Below w6.heap.size w6 wz) ?_ ?_
    · refine (stands_any y.c.k kind y.c.s key y.c.v w6).mono ?_
      rintro e wz ⟨rfl, k1⟩
      exact ⟨_, rfl, by rw [hr.out]; rfl, k1⟩
    rintro vz w7 ⟨rfl, k1⟩
    have F7 := Keep.mk (F6.out.below k1 F6.out.lt)
    have L7 := Keep.mk (L6.out.below k1 L6.out.lt)
    have D7 := Keep.mk (D6.out.below k1 D6.out.lt)
    have B7 : Keep (Below w.heap.size w w7) := ⟨B6.out.trans (k1.mono B6.out.size)⟩
    clear k1 F6 L6 D6 B6
    refine hK _ _ (⟨by have h := rng_mid (blk_range F7.out); rw [Nat.zero_add] at h; exact h, by have h := rng_mid (blk_range L7.out); rw [Nat.zero_add] at h; exact h⟩) fun hH_ => ?_
    clear hK
    simp only [Act.put, List.setIfInBounds_toArray, List.set_cons_zero, List.set_cons_succ]
    refine wpAnyH_take (i := 11) (oi := ⟨some 38, Op.binOp BinOp.gtr 3 (Operand.tmp 37) (Operand.const (Value.int IntKind.i64 0)) 3, 4, _, _, none⟩) (v := .bool (decide (0 < r))) rfl (by kernel_rfl) (by kernel_rfl) (by kernel_rfl) (fun _ _ _ h => h) (Or.inl ⟨by rfl, fun w hS => by obtain ⟨hS1, hS2⟩ := hS; clear hS1 hS2; go_simp⟩) hH_ ?_
    simp only [Act.put, List.setIfInBounds_toArray, List.set_cons_zero, List.set_cons_succ]
    refine wpAnyH_take (i := 12) (oi := ⟨some 9, Op.assign (Operand.tmp 32), 4, _, _, none⟩) (v := .bool (decide (s < 0))) rfl (by kernel_rfl) (by kernel_rfl) (by kernel_rfl) (fun _ _ _ h => h) (Or.inl ⟨by rfl, fun w hS => by obtain ⟨hS1, hS2⟩ := hS; clear hS1 hS2; go_simp⟩) hH_ ?_
    simp only [Act.put, List.setIfInBounds_toArray, List.set_cons_zero, List.set_cons_succ]
    refine wpAnyH_take (i := 13) (oi := ⟨some 10, Op.assign (Operand.tmp 38), 4, _, _, none⟩) (v := .bool (decide (0 < r))) rfl (by kernel_rfl) (by kernel_rfl) (by kernel_rfl) (fun _ _ _ h => h) (Or.inl ⟨by rfl, fun w hS => by obtain ⟨hS1, hS2⟩ := hS; clear hS1 hS2; go_simp⟩) hH_ ?_
    simp only [Act.put, List.setIfInBounds_toArray, List.set_cons_zero, List.set_cons_succ]
    refine wpAnyH_done (by kernel_rfl) ?_ _
    refine hK5 _ _ ?_
    refine wp_seq_k fun K6 hK6 => ?_
    refine wp_seq_k fun K7 hK7 => ?_
    have w1_ : w7.cell? ⟨d, 1, none⟩ = some (.slice (some ⟨b, off, none⟩) 2 cap) := D7.out.c 1 rfl
    have w0_ : w7.cell? ⟨d, 0, none⟩ = some (.int .i64 n) := D7.out.c 0 rfl
    have f0 : w7.cell? ⟨f, 0, none⟩ = some (.int .i64 x.num) := F7.out.c 0 rfl
    have l0 : w7.cell? ⟨l, 0, none⟩ = some (.int .i64 y.num) := L7.out.c 0 rfl
    refine wp_region_list (WL.out ?_)
    refine WL.val (by kernel_rfl) (.pointer (some ⟨d, 1, none⟩)) (by go_simp) ?_
    simp only [Act.put, List.setIfInBounds_toArray, List.set_cons_zero, List.set_cons_succ]
    refine WL.val (by kernel_rfl) (.slice (some ⟨b, off, none⟩) 2 cap) (by go_simp) ?_
    simp only [Act.put, List.setIfInBounds_toArray, List.set_cons_zero, List.set_cons_succ]
    refine WL.val (by kernel_rfl) (.int .i64 2) (by go_simp) ?_
    simp only [Act.put, List.setIfInBounds_toArray, List.set_cons_zero, List.set_cons_succ]
    refine WL.val (by kernel_rfl) (.bool true) (by go_simp) ?_
    simp only [Act.put, List.setIfInBounds_toArray, List.set_cons_zero, List.set_cons_succ]
    refine WL.nil ?_
    refine hK7 _ _ ?_
    refine wp_cond_true rfl ?_
    refine wp_seq_k fun K8 hK8 => ?_
    by_cases hnx : y.num = x.num + 1
    · have hnb : (y.num == x.num + 1) = true := by simpa using hnx
      by_cases hsx : s < 0
      · rw [show decide (s < 0) = true from by simp; omega]
        refine wp_region_list (WL.out ?_)
        refine WL.val (by kernel_rfl) (.pointer (some ⟨l, 0, none⟩)) (by go_simp) ?_
        simp only [Act.put, List.setIfInBounds_toArray, List.set_cons_zero, List.set_cons_succ]
        refine WL.val (by kernel_rfl) (.int .i64 y.num) (by go_simp) ?_
        simp only [Act.put, List.setIfInBounds_toArray, List.set_cons_zero, List.set_cons_succ]
        refine WL.val (by kernel_rfl) (.pointer (some ⟨f, 0, none⟩)) (by go_simp) ?_
        simp only [Act.put, List.setIfInBounds_toArray, List.set_cons_zero, List.set_cons_succ]
        refine WL.val (by kernel_rfl) (.int .i64 x.num) (by go_simp) ?_
        simp only [Act.put, List.setIfInBounds_toArray, List.set_cons_zero, List.set_cons_succ]
        refine WL.val (by kernel_rfl) (.int .i64 (x.num + 1)) (by go_simp) ?_
        simp only [Act.put, List.setIfInBounds_toArray, List.set_cons_zero, List.set_cons_succ]
        refine WL.val (by kernel_rfl) (.bool true) (by go_simp) ?_
        simp only [Act.put, List.setIfInBounds_toArray, List.set_cons_zero, List.set_cons_succ]
        refine WL.val (by kernel_rfl) (.bool true) (by go_simp) ?_
        simp only [Act.put, List.setIfInBounds_toArray, List.set_cons_zero, List.set_cons_succ]
        refine WL.val (by kernel_rfl) (.bool true) (by go_simp) ?_
        simp only [Act.put, List.setIfInBounds_toArray, List.set_cons_zero, List.set_cons_succ]
        refine WL.val (by kernel_rfl) (.bool true) (by go_simp) ?_
        simp only [Act.put, List.setIfInBounds_toArray, List.set_cons_zero, List.set_cons_succ]
        refine WL.val (by kernel_rfl) (.bool true) (by go_simp) ?_
        simp only [Act.put, List.setIfInBounds_toArray, List.set_cons_zero, List.set_cons_succ]
        refine WL.val (by kernel_rfl) (.bool (decide (0 < r))) (by go_simp) ?_
        simp only [Act.put, List.setIfInBounds_toArray, List.set_cons_zero, List.set_cons_succ]
        refine WL.val (by kernel_rfl) (.bool (decide (0 < r))) (by go_simp) ?_
        simp only [Act.put, List.setIfInBounds_toArray, List.set_cons_zero, List.set_cons_succ]
        refine WL.val (by kernel_rfl) (.bool (decide (0 < r))) (by go_simp) ?_
        simp only [Act.put, List.setIfInBounds_toArray, List.set_cons_zero, List.set_cons_succ]
        refine WL.nil ?_
        refine hK8 _ _ ?_
        refine wp_ret ?_
        go_ret
        refine ⟨?_, B7.out⟩
        simp only [ansB, ← hs.out, ← hr.out]
        simp [hsx, hnx]
      · rw [show decide (s < 0) = false from by simp; omega]
        refine wp_region_list (WL.out ?_)
        refine WL.val (by kernel_rfl) (.pointer (some ⟨l, 0, none⟩)) (by go_simp) ?_
        simp only [Act.put, List.setIfInBounds_toArray, List.set_cons_zero, List.set_cons_succ]
        refine WL.val (by kernel_rfl) (.int .i64 y.num) (by go_simp) ?_
        simp only [Act.put, List.setIfInBounds_toArray, List.set_cons_zero, List.set_cons_succ]
        refine WL.val (by kernel_rfl) (.pointer (some ⟨f, 0, none⟩)) (by go_simp) ?_
        simp only [Act.put, List.setIfInBounds_toArray, List.set_cons_zero, List.set_cons_succ]
        refine WL.val (by kernel_rfl) (.int .i64 x.num) (by go_simp) ?_
        simp only [Act.put, List.setIfInBounds_toArray, List.set_cons_zero, List.set_cons_succ]
        refine WL.val (by kernel_rfl) (.int .i64 (x.num + 1)) (by go_simp) ?_
        simp only [Act.put, List.setIfInBounds_toArray, List.set_cons_zero, List.set_cons_succ]
        refine WL.val (by kernel_rfl) (.bool true) (by go_simp) ?_
        simp only [Act.put, List.setIfInBounds_toArray, List.set_cons_zero, List.set_cons_succ]
        refine WL.val (by kernel_rfl) (.bool true) (by go_simp) ?_
        simp only [Act.put, List.setIfInBounds_toArray, List.set_cons_zero, List.set_cons_succ]
        refine WL.val (by kernel_rfl) (.bool false) (by go_simp) ?_
        simp only [Act.put, List.setIfInBounds_toArray, List.set_cons_zero, List.set_cons_succ]
        refine WL.val (by kernel_rfl) (.bool false) (by go_simp) ?_
        simp only [Act.put, List.setIfInBounds_toArray, List.set_cons_zero, List.set_cons_succ]
        refine WL.val (by kernel_rfl) (.bool false) (by go_simp) ?_
        simp only [Act.put, List.setIfInBounds_toArray, List.set_cons_zero, List.set_cons_succ]
        refine WL.skip (by kernel_rfl) ?_
        simp only [Act.put, List.setIfInBounds_toArray, List.set_cons_zero, List.set_cons_succ]
        refine WL.val (by kernel_rfl) (.bool false) (by go_simp) ?_
        simp only [Act.put, List.setIfInBounds_toArray, List.set_cons_zero, List.set_cons_succ]
        refine WL.val (by kernel_rfl) (.bool false) (by go_simp) ?_
        simp only [Act.put, List.setIfInBounds_toArray, List.set_cons_zero, List.set_cons_succ]
        refine WL.nil ?_
        refine hK8 _ _ ?_
        refine wp_ret ?_
        go_ret
        refine ⟨?_, B7.out⟩
        simp only [ansB, ← hs.out, ← hr.out]
        simp [hsx]
    · have hnb : (y.num == x.num + 1) = false := by simpa using hnx
      refine wp_region_list (WL.out ?_)
      refine WL.val (by kernel_rfl) (.pointer (some ⟨l, 0, none⟩)) (by go_simp) ?_
      simp only [Act.put, List.setIfInBounds_toArray, List.set_cons_zero, List.set_cons_succ]
      refine WL.val (by kernel_rfl) (.int .i64 y.num) (by go_simp) ?_
      simp only [Act.put, List.setIfInBounds_toArray, List.set_cons_zero, List.set_cons_succ]
      refine WL.val (by kernel_rfl) (.pointer (some ⟨f, 0, none⟩)) (by go_simp) ?_
      simp only [Act.put, List.setIfInBounds_toArray, List.set_cons_zero, List.set_cons_succ]
      refine WL.val (by kernel_rfl) (.int .i64 x.num) (by go_simp) ?_
      simp only [Act.put, List.setIfInBounds_toArray, List.set_cons_zero, List.set_cons_succ]
      refine WL.val (by kernel_rfl) (.int .i64 (x.num + 1)) (by go_simp) ?_
      simp only [Act.put, List.setIfInBounds_toArray, List.set_cons_zero, List.set_cons_succ]
      refine WL.val (by kernel_rfl) (.bool false) (by go_simp) ?_
      simp only [Act.put, List.setIfInBounds_toArray, List.set_cons_zero, List.set_cons_succ]
      refine WL.val (by kernel_rfl) (.bool false) (by go_simp) ?_
      simp only [Act.put, List.setIfInBounds_toArray, List.set_cons_zero, List.set_cons_succ]
      refine WL.skip (by kernel_rfl) ?_
      simp only [Act.put, List.setIfInBounds_toArray, List.set_cons_zero, List.set_cons_succ]
      refine WL.val (by kernel_rfl) (.bool false) (by go_simp) ?_
      simp only [Act.put, List.setIfInBounds_toArray, List.set_cons_zero, List.set_cons_succ]
      refine WL.val (by kernel_rfl) (.bool false) (by go_simp) ?_
      simp only [Act.put, List.setIfInBounds_toArray, List.set_cons_zero, List.set_cons_succ]
      refine WL.skip (by kernel_rfl) ?_
      simp only [Act.put, List.setIfInBounds_toArray, List.set_cons_zero, List.set_cons_succ]
      refine WL.val (by kernel_rfl) (.bool false) (by go_simp) ?_
      simp only [Act.put, List.setIfInBounds_toArray, List.set_cons_zero, List.set_cons_succ]
      refine WL.val (by kernel_rfl) (.bool false) (by go_simp) ?_
      simp only [Act.put, List.setIfInBounds_toArray, List.set_cons_zero, List.set_cons_succ]
      refine WL.nil ?_
      refine hK8 _ _ ?_
      refine wp_ret ?_
      go_ret
      refine ⟨?_, B7.out⟩
      simp [ansB, hnx]
  have hS0 : Keep (∀ wx : World, Below w.heap.size w wx → Blk wx d 31 (wtA n (.slice (some ⟨b, off, none⟩) 2 cap)) → (fun wx => wx.cell? ⟨d, 1, none⟩ = some (.slice (some ⟨b, off, none⟩) 2 cap) ∧ wx.rangeAt b off (lvA x).toList ∧ wx.rangeAt b (off + 5) (lvA y).toList) wx) := ⟨fun wx hb hd => ⟨hd.c 1 rfl, HR.out wx hb, HR2.out wx hb⟩⟩
  refine wp_region_held_drew (S := fun wx => wx.cell? ⟨d, 1, none⟩ = some (.slice (some ⟨b, off, none⟩) 2 cap) ∧ wx.rangeAt b off (lvA x).toList ∧ wx.rangeAt b (off + 5) (lvA y).toList) (by kernel_rfl) (hS0.out _ Bd.out Wd.out) (fun hH0 => ?_)
  generalize w1.drew = w2 at *
  refine wpAnyH_take (i := 0) (oi := ⟨some 15, Op.fieldAddr 31 (Operand.tmp 3) 1, 0, _, _, none⟩) (v := .pointer (some ⟨d, 1, none⟩)) rfl (by kernel_rfl) (by kernel_rfl) (by kernel_rfl) (fun _ _ _ h => h) (Or.inl ⟨by rfl, fun w hS => by obtain ⟨hS1, hS2, hS3⟩ := hS; clear hS2 hS3; go_simp⟩) hH0 ?_
  simp only [Act.put, List.setIfInBounds_toArray, List.set_cons_zero, List.set_cons_succ]
  refine wpAnyH_take (i := 4) (oi := ⟨some 19, Op.fieldAddr 31 (Operand.tmp 3) 1, 0, _, _, none⟩) (v := .pointer (some ⟨d, 1, none⟩)) rfl (by kernel_rfl) (by kernel_rfl) (by kernel_rfl) (fun _ _ _ h => h) (Or.inl ⟨by rfl, fun w hS => by obtain ⟨hS1, hS2, hS3⟩ := hS; clear hS2 hS3; go_simp⟩) hH0 ?_
  simp only [Act.put, List.setIfInBounds_toArray, List.set_cons_zero, List.set_cons_succ]
  refine wpAnyH_take (i := 6) (oi := ⟨some 21, Op.fieldAddr 31 (Operand.tmp 3) 1, 0, _, _, none⟩) (v := .pointer (some ⟨d, 1, none⟩)) rfl (by kernel_rfl) (by kernel_rfl) (by kernel_rfl) (fun _ _ _ h => h) (Or.inl ⟨by rfl, fun w hS => by obtain ⟨hS1, hS2, hS3⟩ := hS; clear hS2 hS3; go_simp⟩) hH0 ?_
  simp only [Act.put, List.setIfInBounds_toArray, List.set_cons_zero, List.set_cons_succ]
  refine wpAnyH_take (i := 1) (oi := ⟨some 16, Op.load 29 (Operand.tmp 15), 29, _, _, none⟩) (v := .slice (some ⟨b, off, none⟩) 2 cap) rfl (by kernel_rfl) (by kernel_rfl) (by kernel_rfl) (fun _ _ _ h => h) (Or.inl ⟨by rfl, fun w hS => by obtain ⟨hS1, hS2, hS3⟩ := hS; clear hS2 hS3; go_simp⟩) hH0 ?_
  simp only [Act.put, List.setIfInBounds_toArray, List.set_cons_zero, List.set_cons_succ]
  refine wpAnyH_take (i := 5) (oi := ⟨some 20, Op.load 29 (Operand.tmp 19), 29, _, _, none⟩) (v := .slice (some ⟨b, off, none⟩) 2 cap) rfl (by kernel_rfl) (by kernel_rfl) (by kernel_rfl) (fun _ _ _ h => h) (Or.inl ⟨by rfl, fun w hS => by obtain ⟨hS1, hS2, hS3⟩ := hS; clear hS2 hS3; go_simp⟩) hH0 ?_
  simp only [Act.put, List.setIfInBounds_toArray, List.set_cons_zero, List.set_cons_succ]
  refine wpAnyH_take (i := 7) (oi := ⟨some 22, Op.load 29 (Operand.tmp 21), 29, _, _, none⟩) (v := .slice (some ⟨b, off, none⟩) 2 cap) rfl (by kernel_rfl) (by kernel_rfl) (by kernel_rfl) (fun _ _ _ h => h) (Or.inl ⟨by rfl, fun w hS => by obtain ⟨hS1, hS2, hS3⟩ := hS; clear hS2 hS3; go_simp⟩) hH0 ?_
  simp only [Act.put, List.setIfInBounds_toArray, List.set_cons_zero, List.set_cons_succ]
  refine wpAnyH_take (i := 2) (oi := ⟨some 17, Op.indexAddr 29 (Operand.tmp 16) (Operand.const (Value.int IntKind.i64 0)), 0, _, _, none⟩) (v := .pointer (some ⟨b, off, none⟩)) rfl (by kernel_rfl) (by kernel_rfl) (by kernel_rfl) (fun _ _ _ h => h) (Or.inl ⟨by rfl, fun w hS => by obtain ⟨hS1, hS2, hS3⟩ := hS; clear hS2 hS3; go_simp⟩) hH0 ?_
  simp only [Act.put, List.setIfInBounds_toArray, List.set_cons_zero, List.set_cons_succ]
  refine wpAnyH_take (i := 8) (oi := ⟨some 23, Op.call { callee := Callee.builtin Builtin.len, args := #[Operand.tmp 22], argTypes := #[29] }, 3, _, _, none⟩) (v := .int .i64 2) rfl (by kernel_rfl) (by kernel_rfl) (by kernel_rfl) (fun _ _ _ h => h) (Or.inl ⟨by rfl, fun w hS => by obtain ⟨hS1, hS2, hS3⟩ := hS; clear hS2 hS3; go_simp⟩) hH0 ?_
  simp only [Act.put, List.setIfInBounds_toArray, List.set_cons_zero, List.set_cons_succ]
  refine wpAnyH_take (i := 3) (oi := ⟨some 18, Op.load 69 (Operand.tmp 17), 69, _, _, none⟩) (v := .agg (lvA x)) rfl (by kernel_rfl) (by kernel_rfl) (by kernel_rfl) (fun _ _ _ h => h) (yieldsIf_ld (by rfl) (Operand.tmp 17) 69 rfl b off rfl (lvA x) _ Try.underlying69 rfl (Try.sizeLf x) fun w hS => hS.2.1) hH0 ?_
  simp only [Act.put, List.setIfInBounds_toArray, List.set_cons_zero, List.set_cons_succ]
  refine wpAnyH_take (i := 9) (oi := ⟨some 24, Op.binOp BinOp.sub 3 (Operand.tmp 23) (Operand.const (Value.int IntKind.i64 1)) 3, 3, _, _, none⟩) (v := .int .i64 1) rfl (by kernel_rfl) (by kernel_rfl) (by kernel_rfl) (fun _ _ _ h => h) (Or.inl ⟨by rfl, fun w hS => by obtain ⟨hS1, hS2, hS3⟩ := hS; clear hS2 hS3; go_simp⟩) hH0 ?_
  simp only [Act.put, List.setIfInBounds_toArray, List.set_cons_zero, List.set_cons_succ]
  refine wpAnyH_take (i := 10) (oi := ⟨some 25, Op.indexAddr 29 (Operand.tmp 20) (Operand.tmp 24), 0, _, _, none⟩) (v := .pointer (some ⟨b, off + 5, none⟩)) rfl (by kernel_rfl) (by kernel_rfl) (by kernel_rfl) (fun _ _ _ h => h) (Or.inl ⟨by rfl, fun w hS => by obtain ⟨hS1, hS2, hS3⟩ := hS; clear hS2 hS3; go_simp⟩) hH0 ?_
  simp only [Act.put, List.setIfInBounds_toArray, List.set_cons_zero, List.set_cons_succ]
  refine wpAnyH_take (i := 11) (oi := ⟨some 26, Op.load 69 (Operand.tmp 25), 69, _, _, none⟩) (v := .agg (lvA y)) rfl (by kernel_rfl) (by kernel_rfl) (by kernel_rfl) (fun _ _ _ h => h) (yieldsIf_ld (by rfl) (Operand.tmp 25) 69 rfl b (off + 5) rfl (lvA y) _ Try.underlying69 rfl (Try.sizeLf y) fun w hS => hS.2.2) hH0 ?_
  simp only [Act.put, List.setIfInBounds_toArray, List.set_cons_zero, List.set_cons_succ]
  refine wpAnyH_ready (rs := [12, 13]) (by kernel_rfl) (by simp) ?_
  refine AllReadyH.cons (o := ⟨some 7, Op.alloc 69, 0, _, _, none⟩) rfl (fun K hK => ?_) (AllReadyH.cons (o := ⟨some 8, Op.alloc 69, 0, _, _, none⟩) rfl (fun K hK => ?_) AllReadyH.nil)
  · rw [if_pos (by rfl)]
    refine wp_newA 69 rfl _ Try.newLf ?_
    have b_ := below_new w2 (.cells zLf 69)
    have Nf := Keep.mk (Blk.new w2 69 zLf)
    have D3 := Keep.mk (Wd.out.below b_ Wd.out.lt)
    have B3 : Keep (Below w.heap.size w _) := ⟨Bd.out.trans (b_.mono Bd.out.size)⟩
    have gf : Keep (w.heap.size ≤ w2.heap.size) := ⟨Bd.out.size⟩
    have ndf : Keep (d ≠ w2.heap.size) := ⟨by have := Wd.out.lt; omega⟩
    generalize w2.alloc (.cells zLf 69) = w3 at *
    obtain ⟨f, hf⟩ : ∃ z, Keep (z = w2.heap.size) := ⟨_, ⟨rfl⟩⟩
    rw [← hf.out] at Nf gf ndf  ⊢
    clear b_ hf
    refine hK _ _ (hS0.out _ B3.out D3.out) fun hH_ => ?_
    clear hK
    simp only [Act.put, List.setIfInBounds_toArray, List.set_cons_zero, List.set_cons_succ]
    refine wpAnyH_ready (rs := [13]) (by kernel_rfl) (by simp) ?_
    refine AllReadyH.cons (o := ⟨some 8, Op.alloc 69, 0, _, _, none⟩) rfl (fun K hK => ?_) AllReadyH.nil
    rw [if_pos (by rfl)]
    refine wp_newA 69 rfl _ Try.newLf ?_
    have b_ := below_new w3 (.cells zLf 69)
    have Nl := Keep.mk (Blk.new w3 69 zLf)
    have D4 := Keep.mk (D3.out.below b_ D3.out.lt)
    have B4 : Keep (Below w.heap.size w _) := ⟨B3.out.trans (b_.mono B3.out.size)⟩
    have gl : Keep (w.heap.size ≤ w3.heap.size) := ⟨B3.out.size⟩
    have ndl : Keep (d ≠ w3.heap.size) := ⟨by have := D3.out.lt; omega⟩
    have Nf' := Keep.mk (Nf.out.below b_ Nf.out.lt)
    have nfl : Keep (f ≠ w3.heap.size) := ⟨by have := Nf.out.lt; omega⟩
    generalize w3.alloc (.cells zLf 69) = w4 at *
    obtain ⟨l, hl⟩ : ∃ z, Keep (z = w3.heap.size) := ⟨_, ⟨rfl⟩⟩
    rw [← hl.out] at Nl gl ndl nfl ⊢
    clear b_ hl
    refine hK _ _ (hS0.out _ B4.out D4.out) fun hH_ => ?_
    clear hK
    simp only [Act.put, List.setIfInBounds_toArray, List.set_cons_zero, List.set_cons_succ]
    refine wpAnyH_ready (rs := [14]) (by kernel_rfl) (by simp) ?_
    refine AllReadyH.cons (o := ⟨none, Op.store 69 (Operand.tmp 7) (Operand.tmp 18), 0, _, _, none⟩) rfl (fun K hK => ?_) AllReadyH.nil
    rw [if_pos (by rfl)]
    refine wp_store_row 69 (.tmp 7) (.tmp 18) rfl f (lvA x) rfl rfl 69 zLf Nf'.out (Try.sizeLf x) rfl (HX1.out) ?_
    have F5 := Keep.mk (Nf'.out.setRow (lvA x))
    have L5 := Keep.mk (Nl.out.setRow_ne (Ne.symm nfl.out) (lvA x))
    have D5 := Keep.mk (D4.out.setRow_ne ndf.out (lvA x))
    have B5 : Keep (Below w.heap.size w (w4.setRow f (lvA x))) := ⟨below_setRow B4.out gf.out _⟩
    generalize w4.setRow f (lvA x) = w5 at *
    refine hK _ _ (hS0.out _ B5.out D5.out) fun hH_ => ?_
    clear hK
    simp only [Act.put]
    refine wpAnyH_ready (rs := [15]) (by kernel_rfl) (by simp) ?_
    refine AllReadyH.cons (o := ⟨none, Op.store 69 (Operand.tmp 8) (Operand.tmp 26), 0, _, _, none⟩) rfl (fun K hK => ?_) AllReadyH.nil
    rw [if_pos (by rfl)]
    refine wp_store_row 69 (.tmp 8) (.tmp 26) rfl l (lvA y) rfl rfl 69 zLf L5.out (Try.sizeLf y) rfl (HY1.out) ?_
    have L6 := Keep.mk (L5.out.setRow (lvA y))
    have F6 := Keep.mk (F5.out.setRow_ne nfl.out (lvA y))
    have D6 := Keep.mk (D5.out.setRow_ne ndl.out (lvA y))
    have B6 : Keep (Below w.heap.size w (w5.setRow l (lvA y))) := ⟨below_setRow B5.out gl.out _⟩
    generalize w5.setRow l (lvA y) = w6 at *
    refine hK _ _ (hS0.out _ B6.out D6.out) fun hH_ => ?_
    clear hK
    simp only [Act.put]
    refine wpAnyH_done (by kernel_rfl) ?_ _
    exact rest f l w6 F6.out L6.out D6.out B6.out
  · rw [if_pos (by rfl)]
    refine wp_newA 69 rfl _ Try.newLf ?_
    have b_ := below_new w2 (.cells zLf 69)
    have Nl := Keep.mk (Blk.new w2 69 zLf)
    have D3 := Keep.mk (Wd.out.below b_ Wd.out.lt)
    have B3 : Keep (Below w.heap.size w _) := ⟨Bd.out.trans (b_.mono Bd.out.size)⟩
    have gl : Keep (w.heap.size ≤ w2.heap.size) := ⟨Bd.out.size⟩
    have ndl : Keep (d ≠ w2.heap.size) := ⟨by have := Wd.out.lt; omega⟩
    generalize w2.alloc (.cells zLf 69) = w3 at *
    obtain ⟨l, hl⟩ : ∃ z, Keep (z = w2.heap.size) := ⟨_, ⟨rfl⟩⟩
    rw [← hl.out] at Nl gl ndl  ⊢
    clear b_ hl
    refine hK _ _ (hS0.out _ B3.out D3.out) fun hH_ => ?_
    clear hK
    simp only [Act.put, List.setIfInBounds_toArray, List.set_cons_zero, List.set_cons_succ]
    refine wpAnyH_ready (rs := [12]) (by kernel_rfl) (by simp) ?_
    refine AllReadyH.cons (o := ⟨some 7, Op.alloc 69, 0, _, _, none⟩) rfl (fun K hK => ?_) AllReadyH.nil
    rw [if_pos (by rfl)]
    refine wp_newA 69 rfl _ Try.newLf ?_
    have b_ := below_new w3 (.cells zLf 69)
    have Nf := Keep.mk (Blk.new w3 69 zLf)
    have D4 := Keep.mk (D3.out.below b_ D3.out.lt)
    have B4 : Keep (Below w.heap.size w _) := ⟨B3.out.trans (b_.mono B3.out.size)⟩
    have gf : Keep (w.heap.size ≤ w3.heap.size) := ⟨B3.out.size⟩
    have ndf : Keep (d ≠ w3.heap.size) := ⟨by have := D3.out.lt; omega⟩
    have Nl' := Keep.mk (Nl.out.below b_ Nl.out.lt)
    have nfl : Keep (l ≠ w3.heap.size) := ⟨by have := Nl.out.lt; omega⟩
    generalize w3.alloc (.cells zLf 69) = w4 at *
    obtain ⟨f, hf⟩ : ∃ z, Keep (z = w3.heap.size) := ⟨_, ⟨rfl⟩⟩
    rw [← hf.out] at Nf gf ndf nfl ⊢
    clear b_ hf
    refine hK _ _ (hS0.out _ B4.out D4.out) fun hH_ => ?_
    clear hK
    simp only [Act.put, List.setIfInBounds_toArray, List.set_cons_zero, List.set_cons_succ]
    refine wpAnyH_ready (rs := [14]) (by kernel_rfl) (by simp) ?_
    refine AllReadyH.cons (o := ⟨none, Op.store 69 (Operand.tmp 7) (Operand.tmp 18), 0, _, _, none⟩) rfl (fun K hK => ?_) AllReadyH.nil
    rw [if_pos (by rfl)]
    refine wp_store_row 69 (.tmp 7) (.tmp 18) rfl f (lvA x) rfl rfl 69 zLf Nf.out (Try.sizeLf x) rfl (HX1.out) ?_
    have F5 := Keep.mk (Nf.out.setRow (lvA x))
    have L5 := Keep.mk (Nl'.out.setRow_ne (Ne.symm (Ne.symm nfl.out)) (lvA x))
    have D5 := Keep.mk (D4.out.setRow_ne ndf.out (lvA x))
    have B5 : Keep (Below w.heap.size w (w4.setRow f (lvA x))) := ⟨below_setRow B4.out gf.out _⟩
    generalize w4.setRow f (lvA x) = w5 at *
    refine hK _ _ (hS0.out _ B5.out D5.out) fun hH_ => ?_
    clear hK
    simp only [Act.put]
    refine wpAnyH_ready (rs := [15]) (by kernel_rfl) (by simp) ?_
    refine AllReadyH.cons (o := ⟨none, Op.store 69 (Operand.tmp 8) (Operand.tmp 26), 0, _, _, none⟩) rfl (fun K hK => ?_) AllReadyH.nil
    rw [if_pos (by rfl)]
    refine wp_store_row 69 (.tmp 8) (.tmp 26) rfl l (lvA y) rfl rfl 69 zLf L5.out (Try.sizeLf y) rfl (HY1.out) ?_
    have L6 := Keep.mk (L5.out.setRow (lvA y))
    have F6 := Keep.mk (F5.out.setRow_ne (Ne.symm nfl.out) (lvA y))
    have D6 := Keep.mk (D5.out.setRow_ne ndl.out (lvA y))
    have B6 : Keep (Below w.heap.size w (w5.setRow l (lvA y))) := ⟨below_setRow B5.out gl.out _⟩
    generalize w5.setRow l (lvA y) = w6 at *
    refine hK _ _ (hS0.out _ B6.out D6.out) fun hH_ => ?_
    clear hK
    simp only [Act.put]
    refine wpAnyH_done (by kernel_rfl) ?_ _
    exact rest f l w6 F6.out L6.out D6.out B6.out
theorem answers_any (v : Value) (n kind : Int) (key : ByteArray) (ls : List LV) (w : World) (hL : LsV w.heap.size w v ls) (hF : formB n ls = true) (hn : n < 9223372036854775808) : Calls Try.prog 36 #[.agg (wtA n v), .int .i64 kind, .string key] w fun e w' => e = .returned (.bool (ansB n ls kind key)) ∧ Below w.heap.size w w' := by
  obtain ⟨la, cap, rfl, hA⟩ := hL.form
  unfold formB at hF
  match ls, hA, hF with
  | [], _, _ => exact ans_nil la cap n kind key w
  | [x], hA, hF =>
    obtain ⟨b, off, rfl, h⟩ := hA (by simp)
    have h0 : ¬ n = 0 := fun e => by subst e; simp at hF
    rw [if_neg h0] at hF
    by_cases h1 : n < 0 ∨ [x].length < 1 ∨ 2 < [x].length
    · rw [if_pos h1] at hF; cases hF
    · rw [if_neg h1] at hF
      simp [okL] at hF h1
      have hx : 0 ≤ x.num ∧ x.num < n := by omega
      exact ans_one b off cap n kind key x w _ ⟨rfl⟩ (by omega) hx h
  | [x, y], hA, hF =>
    obtain ⟨b, off, rfl, h⟩ := hA (by simp)
    have h0 : ¬ n = 0 := fun e => by subst e; simp at hF
    rw [if_neg h0] at hF
    by_cases h1 : n < 0 ∨ [x, y].length < 1 ∨ 2 < [x, y].length
    · rw [if_pos h1] at hF; cases hF
    · rw [if_neg h1] at hF
      simp [okL] at hF h1
      have hx : 0 ≤ x.num ∧ x.num < n := by omega
      exact ans_two b off cap n kind key x y w _ ⟨rfl⟩ _ ⟨rfl⟩ (by omega) hx h
  | x :: y :: z :: t, _, hF =>
    have h0 : ¬ n = 0 := fun e => by subst e; simp at hF
    rw [if_neg h0, if_pos (.inr (.inr (by simp)))] at hF
    cases hF

end Go.Proofs.Ytjklmkeedhgncaa
