import Derived.Test.YtdpcjfafbmhceaaA11
import Derived.Deep.RegionHeld3
set_option maxRecDepth 8000
set_option maxHeartbeats 1000000
namespace Go.Proofs.Ytdpcjfafbmhceaa
open Go.RowKit
set_option linter.unusedSimpArgs false
set_option linter.unusedVariables false
def sgn (x : LV) (kind : Int) (key : ByteArray) : Int := stI x.c.k x.c.s kind key
def xZ (n : Int) (ls : List LV) (kind : Int) (key : ByteArray) : Bool := match ls with
 | [] => true
 | [x] => decide (sgn x kind key = 0) || ((decide (0 < sgn x kind key) && decide (x.num = 0)) || (decide (sgn x kind key < 0) && decide (x.num = n - 1)))
 | [x, y] => decide (y.num = x.num + 1) && (decide (sgn x kind key < 0) && decide (0 < sgn y kind key))
 | _ => false
theorem VO (la : Option Addr) (cap : Nat) (n kind : Int) (key : ByteArray) (w : World) : Calls Try.prog 36 #[.agg (wtA n (.slice la 0 cap)), .int .i64 kind, .string key] w fun e w' => e = .returned (.bool true) ∧ Below w.heap.size w w' := by
 go_enter Try.func36, Try.ntmps36
 refine wp_seq_k fun K1 hK1 => rgn (zH 25 (.tmp 0) (wtA n (.slice la 0 cap)) fun d w1 hd0 W1 b_ => ?_)
 have B1 : Keep (Below w.heap.size w w1) := ⟨b_⟩
 have gd := lh hd0
 clear b_
 have w0_ : w1.cell? ⟨d, 0, none⟩ = some (.int .i64 n) := W1.o.c 0 rfl
 have w1_ : w1.cell? ⟨d, 1, none⟩ = some (.slice la 0 cap) := W1.o.c 1 rfl
 refine Vf (h:=WL.nil (hK1 _ _ (wp_seq_k fun K2 hK2 => wp_seq_k fun K3 hK3 => rgn (Vv (.pointer (some ⟨d, 1, none⟩)) (h:=Vv (.slice la 0 cap) (h:=Vv (.int .i64 0) (h:=Vt (h:=WL.nil (hK3 _ _ (Ct (h:=wp_seq_k fun K4 hK4 => rgn (Vt (h:=WL.nil (hK4 _ _ (wp_ret ?_)))))))))))))))
 go_ret
 exact ⟨rfl, B1.o⟩
theorem VN (b off cap : Nat) (n kind : Int) (key : ByteArray) (x : LV) (w : World) (s : Int) (hs : Keep (s = sgn x kind key)) (hn : 1 ≤ n ∧ n ≤ 9223372036854775807) (hx : 0 ≤ x.num ∧ x.num < n) (hL : LsAt w.heap.size w b off [x]) : Calls Try.prog 36 #[.agg (wtA n (.slice (some ⟨b, off, none⟩) 1 cap)), .int .i64 kind, .string key] w fun e w' => e = .returned (.bool (xZ n [x] kind key)) ∧ Below w.heap.size w w' := by
 have HR : Keep (∀ wx, Below w.heap.size w wx → wx.rangeAt b off (lvA x).toList) := ⟨fun wx hb => by have h := (hL.below hb).at_ 0 x rfl; simpa using h⟩
 have HR2 : Keep (∀ wx, Below w.heap.size w wx → wx.rangeAt b (off) (lvA x).toList) := ⟨fun wx hb => by have h := (hL.below hb).at_ 0 x rfl; simpa using h⟩
 have HX1 : Keep ((lvA x).all (·.oneCell') = true) := ⟨zW (hL.lf x (by simp))⟩
 have HY1 : Keep ((lvA x).all (·.oneCell') = true) := ⟨zW (hL.lf x (by simp))⟩
 have hwn : IntKind.i64.wrap (n - 1) = n - 1 := by rw [IntKind.wrap_i64]; omega
 have hw0 : IntKind.i64.wrap 0 = 0 := by decide
 have hw1 : IntKind.i64.wrap 1 = 1 := by decide
 have hwx : IntKind.i64.wrap (x.num + 1) = x.num + 1 := by rw [IntKind.wrap_i64]; omega
 clear hL hn hx
 go_enter Try.func36, Try.ntmps36
 refine wp_seq_k fun K1 hK1 => rgn (zH 25 (.tmp 0) (wtA n (.slice (some ⟨b, off, none⟩) 1 cap)) fun d w1 hd0 W1 b_ => ?_)
 have B1 : Keep (Below w.heap.size w w1) := ⟨b_⟩
 have gd := lh hd0
 clear b_
 have w0_ : w1.cell? ⟨d, 0, none⟩ = some (.int .i64 n) := W1.o.c 0 rfl
 have w1_ : w1.cell? ⟨d, 1, none⟩ = some (.slice (some ⟨b, off, none⟩) 1 cap) := W1.o.c 1 rfl
 refine Vf (h:=WL.nil (hK1 _ _ (wp_seq_k fun K2 hK2 => wp_seq_k fun K3 hK3 => rgn (Vv (.pointer (some ⟨d, 1, none⟩)) (h:=Vv (.slice (some ⟨b, off, none⟩) 1 cap) (h:=Vv (.int .i64 1) (h:=Vf (h:=WL.nil (hK3 _ _ (Cf (h:=wp_skip (hK2 _ _ (wp_seq_k fun K4 hK4 => ?_)))))))))))))
 have Wd : Keep (Blk w1.drew d 25 (wtA n (.slice (some ⟨b, off, none⟩) 1 cap))) := ⟨W1.o⟩
 have Bd : Keep (Below w.heap.size w w1.drew) := ⟨B1.o.drew⟩
 clear W1 B1 w0_ w1_
 have rest : ∀ (f l : Nat) (w5 : World), Blk w5 f 54 (lvA x) → Blk w5 l 54 (lvA x) → Blk w5 d 25 (wtA n (.slice (some ⟨b, off, none⟩) 1 cap)) → Below w.heap.size w w5 → K4 { tmps := #[.agg (wtA n (.slice (some ⟨b, off, none⟩) 1 cap)), .int .i64 kind, .string key, .pointer (some ⟨d, 0, none⟩), undef, undef, .bool false, .pointer (some ⟨f, 0, none⟩), .pointer (some ⟨l, 0, none⟩), undef, undef, .pointer (some ⟨d, 1, none⟩), .slice (some ⟨b, off, none⟩) 1 cap, .int .i64 1, .bool false, .pointer (some ⟨d, 1, none⟩), .slice (some ⟨b, off, none⟩) 1 cap, .pointer (some ⟨b, off, none⟩), .agg (lvA x), .pointer (some ⟨d, 1, none⟩), .slice (some ⟨b, off, none⟩) 1 cap, .pointer (some ⟨d, 1, none⟩), .slice (some ⟨b, off, none⟩) 1 cap, .int .i64 1, .int .i64 0, .pointer (some ⟨b, off, none⟩), .agg (lvA x), undef, undef, undef, undef, undef, undef, undef, undef, undef, undef, undef, undef, undef, undef, undef, undef, undef, undef, undef, undef, undef, undef, undef, undef, undef, undef, undef, undef, undef, undef, undef, undef, undef, undef, undef, undef, undef, undef, undef, undef, undef, undef, undef, undef, undef, undef, undef, undef, undef, undef, undef], defers := [] } w5 := by
  intro f l w5 hF hL hD hB5
  have F5 := kk hF
  have L5 := kk hL
  have D5 := kk hD
  have B5 := kk hB5
  clear hF hL hD hB5 Wd Bd
  refine hK4 _ _ (wp_seq_k fun K5 hK5 => ?_)
  have Fd : Keep (Blk w5.drew f 54 (lvA x)) := ⟨F5.o⟩
  have Ld : Keep (Blk w5.drew l 54 (lvA x)) := ⟨L5.o⟩
  have Dd : Keep (Blk w5.drew d 25 (wtA n (.slice (some ⟨b, off, none⟩) 1 cap))) := ⟨D5.o⟩
  have Bd : Keep (Below w.heap.size w w5.drew) := ⟨B5.o.drew⟩
  clear F5 L5 D5 B5
  refine wp_region_held_drew (S := fun wx => wx.rangeAt f 1 (cvA x.c).toList ∧ wx.rangeAt l 1 (cvA x.c).toList) (by kernel_rfl) (⟨by have h := zn (ql Fd.o); rw [Nat.zero_add] at h; exact h, by have h := zn (ql Ld.o); rw [Nat.zero_add] at h; exact h⟩) (fun hHeld => ?_)
  refine uS 0 ⟨some 27, .fieldAddr 54 (.tmp 7) 1, 0, _, _, none⟩ (.pointer (some ⟨f, 1, none⟩)) rfl (yi (by rintro w ⟨hS1, hS2⟩; clear hS1 hS2; go_simp)) hHeld ?_
  refine uS 2 ⟨some 29, .move (.tmp 1), 3, _, _, none⟩ (.int .i64 kind) rfl (yi (by rintro w ⟨hS1, hS2⟩; clear hS1 hS2; go_simp)) hHeld ?_
  refine uS 3 ⟨some 30, .move (.tmp 2), 9, _, _, none⟩ (.string key) rfl (yi (by rintro w ⟨hS1, hS2⟩; clear hS1 hS2; go_simp)) hHeld ?_
  refine uS 6 ⟨some 33, .fieldAddr 54 (.tmp 8) 1, 0, _, _, none⟩ (.pointer (some ⟨l, 1, none⟩)) rfl (yi (by rintro w ⟨hS1, hS2⟩; clear hS1 hS2; go_simp)) hHeld ?_
  refine uS 8 ⟨some 35, .move (.tmp 1), 3, _, _, none⟩ (.int .i64 kind) rfl (yi (by rintro w ⟨hS1, hS2⟩; clear hS1 hS2; go_simp)) hHeld ?_
  refine uS 9 ⟨some 36, .move (.tmp 2), 9, _, _, none⟩ (.string key) rfl (yi (by rintro w ⟨hS1, hS2⟩; clear hS1 hS2; go_simp)) hHeld ?_
  refine uS 1 ⟨some 28, .load 44 (.tmp 27), 44, _, _, none⟩ (.agg (cvA x.c)) rfl (qv (by rfl) (.tmp 27) 44 rfl f 1 rfl (cvA x.c) _ Try.underlying44 rfl (qw _ _ _) fun w hS => hS.1) hHeld ?_
  refine uS 7 ⟨some 34, .load 44 (.tmp 33), 44, _, _, none⟩ (.agg (cvA x.c)) rfl (qv (by rfl) (.tmp 33) 44 rfl l 1 rfl (cvA x.c) _ Try.underlying44 rfl (qw _ _ _) fun w hS => hS.2) hHeld ?_
  refine rd1 4 ⟨some 31, .call { callee := .value (.func 46), args := #[.tmp 28, .tmp 29, .tmp 30], argTypes := #[44, 3, 9] }, 3, _, _, none⟩ rfl fun K hK => ?_
  refine qz 46 _ _ rfl xK #[.agg (cvA x.c), .int .i64 kind, .string key] (by simp [Act.eval]) (fun vz wz => vz = .int .i64 s ∧ Below w5.drew.heap.size w5.drew wz) ?_ ?_
  ·refine (zY x.c.k kind x.c.s key x.c.v w5.drew).mono ?_
   rintro e wz ⟨rfl, k1⟩
   exact ⟨_, rfl, by rw [hs.o]; rfl, k1⟩
  rintro vz w6 ⟨rfl, k1⟩
  have F6 := kbx Fd k1
  have L6 := kbx Ld k1
  have D6 := kbx Dd k1
  have B6 := tb Bd k1
  clear k1 Fd Ld Dd Bd
  refine hK _ _ (⟨by have h := zn (ql F6.o); rw [Nat.zero_add] at h; exact h, by have h := zn (ql L6.o); rw [Nat.zero_add] at h; exact h⟩) fun hH_ => kNx ?_
  clear hK
  refine uS 5 ⟨some 32, .binOp BinOp.lss 3 (.tmp 31) (.const (Value.int IntKind.i64 0)) 3, 4, _, _, none⟩ (.bool (decide (s < 0))) rfl (yi (by rintro w ⟨hS1, hS2⟩; clear hS1 hS2; go_simp)) hH_ ?_
  refine rd1 10 ⟨some 37, .call { callee := .value (.func 46), args := #[.tmp 34, .tmp 35, .tmp 36], argTypes := #[44, 3, 9] }, 3, _, _, none⟩ rfl fun K hK => ?_
  refine qz 46 _ _ rfl xK #[.agg (cvA x.c), .int .i64 kind, .string key] (by simp [Act.eval]) (fun vz wz => vz = .int .i64 s ∧ Below w6.heap.size w6 wz) ?_ ?_
  ·refine (zY x.c.k kind x.c.s key x.c.v w6).mono ?_
   rintro e wz ⟨rfl, k1⟩
   exact ⟨_, rfl, by rw [hs.o]; rfl, k1⟩
  rintro vz w7 ⟨rfl, k1⟩
  have F7 := kbx F6 k1
  have L7 := kbx L6 k1
  have D7 := kbx D6 k1
  have B7 := tb B6 k1
  clear k1 F6 L6 D6 B6
  refine hK _ _ (⟨by have h := zn (ql F7.o); rw [Nat.zero_add] at h; exact h, by have h := zn (ql L7.o); rw [Nat.zero_add] at h; exact h⟩) fun hH_ => kNx ?_
  clear hK
  refine uS 11 ⟨some 38, .binOp BinOp.gtr 3 (.tmp 37) (.const (Value.int IntKind.i64 0)) 3, 4, _, _, none⟩ (.bool (decide (0 < s))) rfl (yi (by rintro w ⟨hS1, hS2⟩; clear hS1 hS2; go_simp)) hH_ ?_
  refine uS 12 ⟨some 9, .assign (.tmp 32), 4, _, _, none⟩ (.bool (decide (s < 0))) rfl (yi (by rintro w ⟨hS1, hS2⟩; clear hS1 hS2; go_simp)) hH_ ?_
  refine uS 13 ⟨some 10, .assign (.tmp 38), 4, _, _, none⟩ (.bool (decide (0 < s))) rfl (yi (by rintro w ⟨hS1, hS2⟩; clear hS1 hS2; go_simp)) hH_ ?_
  refine wpAnyH_done (by kernel_rfl) ?_ _
  refine hK5 _ _ (wp_seq_k fun K6 hK6 => wp_seq_k fun K7 hK7 => ?_)
  have w1_ : w7.cell? ⟨d, 1, none⟩ = some (.slice (some ⟨b, off, none⟩) 1 cap) := D7.o.c 1 rfl
  have w0_ : w7.cell? ⟨d, 0, none⟩ = some (.int .i64 n) := D7.o.c 0 rfl
  have f0 : w7.cell? ⟨f, 0, none⟩ = some (.int .i64 x.num) := F7.o.c 0 rfl
  have l0 : w7.cell? ⟨l, 0, none⟩ = some (.int .i64 x.num) := L7.o.c 0 rfl
  refine rgn (Vv (.pointer (some ⟨d, 1, none⟩)) (h:=Vv (.slice (some ⟨b, off, none⟩) 1 cap) (h:=Vv (.int .i64 1) (h:=Vf (h:=WL.nil (hK7 _ _ (Cf (h:=wp_skip (hK6 _ _ (wp_seq_k fun K8 hK8 => ?_))))))))))
  rcases Int.lt_trichotomy s 0 with hsx | hsx | hsx
  ·rw [show decide (s < 0) = true from by simp; omega, show decide (0 < s) = false from by simp; omega]
   refine rgn ?_
   refine WL.row (by kernel_rfl) 25 (.tmp 3) rfl d rfl 25 (wtA n (.slice (some ⟨b, off, none⟩) 1 cap)) _ D7.o Try.underlying25 rfl (by rfl) ?_
   simp only [Act.put, pqA, pqB, pqC]
   refine Vv (.int .i64 kind) (h:=Vv (.string key) (h:=?_))
   clear w0_ w1_ f0 l0
   have htl := xw b off cap n kind key x w7 fun wx hb => HR.o wx (B7.o.trans (hb.mono B7.o.size))
   rw [show jq [x] kind key = false from by unfold jq; show decide (sgn x kind key = 0) = _; rw [← hs.o]; simp; omega] at htl
   refine ClS (htl) ?_
   rintro e w8 ⟨rfl, k1⟩
   refine ⟨_, rfl, ?_⟩
   have F8 := kbx F7 k1
   have D8 := kbx D7 k1
   have B8 := tb B7 k1
   clear k1 htl
   have w0_ : w8.cell? ⟨d, 0, none⟩ = some (.int .i64 n) := D8.o.c 0 rfl
   have f0 : w8.cell? ⟨f, 0, none⟩ = some (.int .i64 x.num) := F8.o.c 0 rfl
   refine Vf (h:=Vf (h:=Vf (h:=Vs (h:=Vs (h:=Vs (h:=Vf (h:=Vf (h:=Vf (h:=Vt (h:=Vt (h:=Vv (.pointer (some ⟨f, 0, none⟩)) (h:=Vv (.int .i64 x.num) (h:=Vv (.pointer (some ⟨d, 0, none⟩)) (h:=?_))))))))))))))
   refine Vv (.int .i64 n) (h:=Vv (.int .i64 (n - 1)) (h:=Vv (.bool (x.num == n - 1)) (h:=Vv (.bool (x.num == n - 1)) (h:=Vv (.bool (x.num == n - 1)) (h:=Vv (.bool (x.num == n - 1)) (h:=WL.nil (hK8 _ _ (wp_ret ?_))))))))
   go_ret
   refine ⟨?_, B8.o⟩
   simp only [xZ, ← hs.o]
   have e1 : ¬ s = 0 := by omega
   have e2 : ¬ 0 < s := by omega
   have e3 : (x.num == n - 1) = decide (x.num = n - 1) := by rw [Bool.eq_iff_iff]; simp
   simp [e1, e2, hsx]
   exact e3
  ·rw [show decide (s < 0) = false from by simp; omega, show decide (0 < s) = false from by simp; omega]
   refine rgn ?_
   refine WL.row (by kernel_rfl) 25 (.tmp 3) rfl d rfl 25 (wtA n (.slice (some ⟨b, off, none⟩) 1 cap)) _ D7.o Try.underlying25 rfl (by rfl) ?_
   simp only [Act.put, pqA, pqB, pqC]
   refine Vv (.int .i64 kind) (h:=Vv (.string key) (h:=?_))
   clear w0_ w1_ f0 l0
   have htl := xw b off cap n kind key x w7 fun wx hb => HR.o wx (B7.o.trans (hb.mono B7.o.size))
   rw [show jq [x] kind key = true from by unfold jq; show decide (sgn x kind key = 0) = _; rw [← hs.o]; simp; omega] at htl
   refine ClS (htl) ?_
   rintro e w8 ⟨rfl, k1⟩
   refine ⟨_, rfl, ?_⟩
   have F8 := kbx F7 k1
   have D8 := kbx D7 k1
   have B8 := tb B7 k1
   clear k1 htl
   have w0_ : w8.cell? ⟨d, 0, none⟩ = some (.int .i64 n) := D8.o.c 0 rfl
   have f0 : w8.cell? ⟨f, 0, none⟩ = some (.int .i64 x.num) := F8.o.c 0 rfl
   refine Vt (h:=Vs (h:=Vs (h:=Vs (h:=Vs (h:=Vs (h:=Vs (h:=Vt (h:=Vt (h:=Vs (h:=Vs (h:=Vs (h:=Vs (h:=Vs (h:=?_))))))))))))))
   refine Vs (h:=Vs (h:=Vs (h:=Vs (h:=Vt (h:=Vt (h:=WL.nil (hK8 _ _ (wp_ret ?_))))))))
   go_ret
   refine ⟨?_, B8.o⟩
   simp only [xZ, ← hs.o]
   simp [hsx]
  ·rw [show decide (s < 0) = false from by simp; omega, show decide (0 < s) = true from by simp; omega]
   by_cases hx0 : x.num = 0
   ·have hxb : (x.num == 0) = true := by simpa using hx0
    refine rgn ?_
    refine WL.row (by kernel_rfl) 25 (.tmp 3) rfl d rfl 25 (wtA n (.slice (some ⟨b, off, none⟩) 1 cap)) _ D7.o Try.underlying25 rfl (by rfl) ?_
    simp only [Act.put, pqA, pqB, pqC]
    refine Vv (.int .i64 kind) (h:=Vv (.string key) (h:=?_))
    clear w0_ w1_ f0 l0
    have htl := xw b off cap n kind key x w7 fun wx hb => HR.o wx (B7.o.trans (hb.mono B7.o.size))
    rw [show jq [x] kind key = false from by unfold jq; show decide (sgn x kind key = 0) = _; rw [← hs.o]; simp; omega] at htl
    refine ClS (htl) ?_
    rintro e w8 ⟨rfl, k1⟩
    refine ⟨_, rfl, ?_⟩
    have F8 := kbx F7 k1
    have D8 := kbx D7 k1
    have B8 := tb B7 k1
    clear k1 htl
    have w0_ : w8.cell? ⟨d, 0, none⟩ = some (.int .i64 n) := D8.o.c 0 rfl
    have f0 : w8.cell? ⟨f, 0, none⟩ = some (.int .i64 x.num) := F8.o.c 0 rfl
    refine Vf (h:=Vt (h:=Vt (h:=Vv (.pointer (some ⟨f, 0, none⟩)) (h:=Vv (.int .i64 x.num) (h:=Vt (h:=Vt (h:=Vt (h:=Vt (h:=Vs (h:=Vs (h:=Vs (h:=Vs (h:=Vs (h:=?_))))))))))))))
    refine Vs (h:=Vs (h:=Vs (h:=Vs (h:=Vt (h:=Vt (h:=WL.nil (hK8 _ _ (wp_ret ?_))))))))
    go_ret
    refine ⟨?_, B8.o⟩
    simp only [xZ, ← hs.o]
    simp [hsx, hx0]
   ·have hxb : (x.num == 0) = false := by simpa using hx0
    refine rgn ?_
    refine WL.row (by kernel_rfl) 25 (.tmp 3) rfl d rfl 25 (wtA n (.slice (some ⟨b, off, none⟩) 1 cap)) _ D7.o Try.underlying25 rfl (by rfl) ?_
    simp only [Act.put, pqA, pqB, pqC]
    refine Vv (.int .i64 kind) (h:=Vv (.string key) (h:=?_))
    clear w0_ w1_ f0 l0
    have htl := xw b off cap n kind key x w7 fun wx hb => HR.o wx (B7.o.trans (hb.mono B7.o.size))
    rw [show jq [x] kind key = false from by unfold jq; show decide (sgn x kind key = 0) = _; rw [← hs.o]; simp; omega] at htl
    refine ClS (htl) ?_
    rintro e w8 ⟨rfl, k1⟩
    refine ⟨_, rfl, ?_⟩
    have F8 := kbx F7 k1
    have D8 := kbx D7 k1
    have B8 := tb B7 k1
    clear k1 htl
    have w0_ : w8.cell? ⟨d, 0, none⟩ = some (.int .i64 n) := D8.o.c 0 rfl
    have f0 : w8.cell? ⟨f, 0, none⟩ = some (.int .i64 x.num) := F8.o.c 0 rfl
    refine Vf (h:=Vt (h:=Vt (h:=Vv (.pointer (some ⟨f, 0, none⟩)) (h:=Vv (.int .i64 x.num) (h:=Vf (h:=Vf (h:=Vf (h:=Vf (h:=Vf (h:=Vf (h:=Vs (h:=Vs (h:=Vs (h:=?_))))))))))))))
    refine Vs (h:=Vs (h:=Vs (h:=Vf (h:=Vf (h:=Vf (h:=WL.nil (hK8 _ _ (wp_ret ?_))))))))
    go_ret
    refine ⟨?_, B8.o⟩
    simp only [xZ, ← hs.o]
    have e1 : ¬ s = 0 := by omega
    have e2 : ¬ s < 0 := by omega
    simp [e1, e2, hx0]
 have hS0 : Keep (∀ wx : World, Below w.heap.size w wx → Blk wx d 25 (wtA n (.slice (some ⟨b, off, none⟩) 1 cap)) → (fun wx => wx.cell? ⟨d, 1, none⟩ = some (.slice (some ⟨b, off, none⟩) 1 cap) ∧ wx.rangeAt b off (lvA x).toList ∧ wx.rangeAt b (off) (lvA x).toList) wx) := ⟨fun wx hb hd => ⟨hd.c 1 rfl, HR.o wx hb, HR2.o wx hb⟩⟩
 refine wp_region_held_drew (S := fun wx => wx.cell? ⟨d, 1, none⟩ = some (.slice (some ⟨b, off, none⟩) 1 cap) ∧ wx.rangeAt b off (lvA x).toList ∧ wx.rangeAt b (off) (lvA x).toList) (by kernel_rfl) (hS0.o _ Bd.o Wd.o) (fun hH0 => ?_)
 generalize w1.drew = w2 at *
 refine uS 0 ⟨some 15, .fieldAddr 25 (.tmp 3) 1, 0, _, _, none⟩ (.pointer (some ⟨d, 1, none⟩)) rfl (yi (by rintro w ⟨hS1, hS2, hS3⟩; clear hS2 hS3; go_simp)) hH0 ?_
 refine uS 4 ⟨some 19, .fieldAddr 25 (.tmp 3) 1, 0, _, _, none⟩ (.pointer (some ⟨d, 1, none⟩)) rfl (yi (by rintro w ⟨hS1, hS2, hS3⟩; clear hS2 hS3; go_simp)) hH0 ?_
 refine uS 6 ⟨some 21, .fieldAddr 25 (.tmp 3) 1, 0, _, _, none⟩ (.pointer (some ⟨d, 1, none⟩)) rfl (yi (by rintro w ⟨hS1, hS2, hS3⟩; clear hS2 hS3; go_simp)) hH0 ?_
 refine uS 1 ⟨some 16, .load 23 (.tmp 15), 23, _, _, none⟩ (.slice (some ⟨b, off, none⟩) 1 cap) rfl (yi (by rintro w ⟨hS1, hS2, hS3⟩; clear hS2 hS3; go_simp)) hH0 ?_
 refine uS 5 ⟨some 20, .load 23 (.tmp 19), 23, _, _, none⟩ (.slice (some ⟨b, off, none⟩) 1 cap) rfl (yi (by rintro w ⟨hS1, hS2, hS3⟩; clear hS2 hS3; go_simp)) hH0 ?_
 refine uS 7 ⟨some 22, .load 23 (.tmp 21), 23, _, _, none⟩ (.slice (some ⟨b, off, none⟩) 1 cap) rfl (yi (by rintro w ⟨hS1, hS2, hS3⟩; clear hS2 hS3; go_simp)) hH0 ?_
 refine uS 2 ⟨some 17, .indexAddr 23 (.tmp 16) (.const (Value.int IntKind.i64 0)), 0, _, _, none⟩ (.pointer (some ⟨b, off, none⟩)) rfl (yi (by rintro w ⟨hS1, hS2, hS3⟩; clear hS2 hS3; go_simp)) hH0 ?_
 refine uS 8 ⟨some 23, .call { callee := .builtin .len, args := #[.tmp 22], argTypes := #[23] }, 3, _, _, none⟩ (.int .i64 1) rfl (yi (by rintro w ⟨hS1, hS2, hS3⟩; clear hS2 hS3; go_simp)) hH0 ?_
 refine uS 3 ⟨some 18, .load 54 (.tmp 17), 54, _, _, none⟩ (.agg (lvA x)) rfl (qv (by rfl) (.tmp 17) 54 rfl b off rfl (lvA x) _ Try.underlying54 rfl (qA x) fun w hS => hS.2.1) hH0 ?_
 refine uS 9 ⟨some 24, .binOp BinOp.sub 3 (.tmp 23) (.const (Value.int IntKind.i64 1)) 3, 3, _, _, none⟩ (.int .i64 0) rfl (yi (by rintro w ⟨hS1, hS2, hS3⟩; clear hS2 hS3; go_simp)) hH0 ?_
 refine uS 10 ⟨some 25, .indexAddr 23 (.tmp 20) (.tmp 24), 0, _, _, none⟩ (.pointer (some ⟨b, off, none⟩)) rfl (yi (by rintro w ⟨hS1, hS2, hS3⟩; clear hS2 hS3; go_simp)) hH0 ?_
 refine uS 11 ⟨some 26, .load 54 (.tmp 25), 54, _, _, none⟩ (.agg (lvA x)) rfl (qv (by rfl) (.tmp 25) 54 rfl b (off) rfl (lvA x) _ Try.underlying54 rfl (qA x) fun w hS => hS.2.2) hH0 ?_
 refine wpAnyH_ready (rs := [12, 13]) (by kernel_rfl) (by simp) ?_
 refine AllReadyH.cons (o := ⟨some 7, .alloc 54, 0, _, _, none⟩) rfl (fun K hK => ?_) (AllReadyH.cons (o := ⟨some 8, .alloc 54, 0, _, _, none⟩) rfl (fun K hK => ?_) AllReadyH.nil)
 ·rw [if_pos (by rfl)]
  refine qK 54 rfl _ zd ?_
  have b_ := qg w2 (.cells zLf 54)
  have Nf := kk (Blk.new w2 54 zLf)
  have D3 := kbx Wd b_
  have B3 := tb Bd b_
  have gf : Keep (w.heap.size ≤ w2.heap.size) := ⟨Bd.o.size⟩
  have ndf : Keep (d ≠ w2.heap.size) := ⟨by have := Wd.o.lt; omega⟩
  generalize w2.alloc (.cells zLf 54) = w3 at *
  obtain ⟨f, hf⟩ := nm w2
  rw [← hf.o] at Nf gf ndf  ⊢
  clear b_ hf
  refine hK _ _ (hS0.o _ B3.o D3.o) fun hH_ => kNx ?_
  clear hK
  refine rd1 13 ⟨some 8, .alloc 54, 0, _, _, none⟩ rfl fun K hK => ?_
  refine qK 54 rfl _ zd ?_
  have b_ := qg w3 (.cells zLf 54)
  have Nl := kk (Blk.new w3 54 zLf)
  have D4 := kbx D3 b_
  have B4 := tb B3 b_
  have gl : Keep (w.heap.size ≤ w3.heap.size) := ⟨B3.o.size⟩
  have ndl : Keep (d ≠ w3.heap.size) := ⟨by have := D3.o.lt; omega⟩
  have Nf' := kbx Nf b_
  have nfl : Keep (f ≠ w3.heap.size) := ⟨by have := Nf.o.lt; omega⟩
  generalize w3.alloc (.cells zLf 54) = w4 at *
  obtain ⟨l, hl⟩ := nm w3
  rw [← hl.o] at Nl gl ndl nfl ⊢
  clear b_ hl
  refine hK _ _ (hS0.o _ B4.o D4.o) fun hH_ => kNx ?_
  clear hK
  refine rd1 14 ⟨none, .store 54 (.tmp 7) (.tmp 18), 0, _, _, none⟩ rfl fun K hK => ?_
  refine wp_store_row 54 (.tmp 7) (.tmp 18) rfl f (lvA x) rfl rfl 54 zLf Nf'.out (qA x) rfl (HX1.o) ?_
  have F5 := kk (Nf'.out.setRow (lvA x))
  have L5 := kk (Nl.o.setRow_ne (Ne.symm nfl.o) (lvA x))
  have D5 := kk (D4.o.setRow_ne ndf.o (lvA x))
  have B5 : Keep (Below w.heap.size w (w4.setRow f (lvA x))) := ⟨qf B4.o gf.o _⟩
  generalize w4.setRow f (lvA x) = w5 at *
  refine hK _ _ (hS0.o _ B5.o D5.o) fun hH_ => kNx ?_
  clear hK
  refine rd1 15 ⟨none, .store 54 (.tmp 8) (.tmp 26), 0, _, _, none⟩ rfl fun K hK => ?_
  refine wp_store_row 54 (.tmp 8) (.tmp 26) rfl l (lvA x) rfl rfl 54 zLf L5.o (qA x) rfl (HY1.o) ?_
  have L6 := kk (L5.o.setRow (lvA x))
  have F6 := kk (F5.o.setRow_ne nfl.o (lvA x))
  have D6 := kk (D5.o.setRow_ne ndl.o (lvA x))
  have B6 : Keep (Below w.heap.size w (w5.setRow l (lvA x))) := ⟨qf B5.o gl.o _⟩
  generalize w5.setRow l (lvA x) = w6 at *
  refine hK _ _ (hS0.o _ B6.o D6.o) fun hH_ => kNx ?_
  clear hK
  refine wpAnyH_done (by kernel_rfl) ?_ _
  exact rest f l w6 F6.o L6.o D6.o B6.o
 ·rw [if_pos (by rfl)]
  refine qK 54 rfl _ zd ?_
  have b_ := qg w2 (.cells zLf 54)
  have Nl := kk (Blk.new w2 54 zLf)
  have D3 := kbx Wd b_
  have B3 := tb Bd b_
  have gl : Keep (w.heap.size ≤ w2.heap.size) := ⟨Bd.o.size⟩
  have ndl : Keep (d ≠ w2.heap.size) := ⟨by have := Wd.o.lt; omega⟩
  generalize w2.alloc (.cells zLf 54) = w3 at *
  obtain ⟨l, hl⟩ := nm w2
  rw [← hl.o] at Nl gl ndl  ⊢
  clear b_ hl
  refine hK _ _ (hS0.o _ B3.o D3.o) fun hH_ => kNx ?_
  clear hK
  refine rd1 12 ⟨some 7, .alloc 54, 0, _, _, none⟩ rfl fun K hK => ?_
  refine qK 54 rfl _ zd ?_
  have b_ := qg w3 (.cells zLf 54)
  have Nf := kk (Blk.new w3 54 zLf)
  have D4 := kbx D3 b_
  have B4 := tb B3 b_
  have gf : Keep (w.heap.size ≤ w3.heap.size) := ⟨B3.o.size⟩
  have ndf : Keep (d ≠ w3.heap.size) := ⟨by have := D3.o.lt; omega⟩
  have Nl' := kbx Nl b_
  have nfl : Keep (l ≠ w3.heap.size) := ⟨by have := Nl.o.lt; omega⟩
  generalize w3.alloc (.cells zLf 54) = w4 at *
  obtain ⟨f, hf⟩ := nm w3
  rw [← hf.o] at Nf gf ndf nfl ⊢
  clear b_ hf
  refine hK _ _ (hS0.o _ B4.o D4.o) fun hH_ => kNx ?_
  clear hK
  refine rd1 14 ⟨none, .store 54 (.tmp 7) (.tmp 18), 0, _, _, none⟩ rfl fun K hK => ?_
  refine wp_store_row 54 (.tmp 7) (.tmp 18) rfl f (lvA x) rfl rfl 54 zLf Nf.o (qA x) rfl (HX1.o) ?_
  have F5 := kk (Nf.o.setRow (lvA x))
  have L5 := kk (Nl'.out.setRow_ne (Ne.symm (Ne.symm nfl.o)) (lvA x))
  have D5 := kk (D4.o.setRow_ne ndf.o (lvA x))
  have B5 : Keep (Below w.heap.size w (w4.setRow f (lvA x))) := ⟨qf B4.o gf.o _⟩
  generalize w4.setRow f (lvA x) = w5 at *
  refine hK _ _ (hS0.o _ B5.o D5.o) fun hH_ => kNx ?_
  clear hK
  refine rd1 15 ⟨none, .store 54 (.tmp 8) (.tmp 26), 0, _, _, none⟩ rfl fun K hK => ?_
  refine wp_store_row 54 (.tmp 8) (.tmp 26) rfl l (lvA x) rfl rfl 54 zLf L5.o (qA x) rfl (HY1.o) ?_
  have L6 := kk (L5.o.setRow (lvA x))
  have F6 := kk (F5.o.setRow_ne (Ne.symm nfl.o) (lvA x))
  have D6 := kk (D5.o.setRow_ne ndl.o (lvA x))
  have B6 : Keep (Below w.heap.size w (w5.setRow l (lvA x))) := ⟨qf B5.o gl.o _⟩
  generalize w5.setRow l (lvA x) = w6 at *
  refine hK _ _ (hS0.o _ B6.o D6.o) fun hH_ => kNx ?_
  clear hK
  refine wpAnyH_done (by kernel_rfl) ?_ _
  exact rest f l w6 F6.o L6.o D6.o B6.o
theorem VM (b off cap : Nat) (n kind : Int) (key : ByteArray) (x y : LV) (w : World) (s : Int) (hs : Keep (s = sgn x kind key)) (r : Int) (hr : Keep (r = sgn y kind key)) (hn : 1 ≤ n ∧ n ≤ 9223372036854775807) (hx : 0 ≤ x.num ∧ x.num < n) (hL : LsAt w.heap.size w b off [x, y]) : Calls Try.prog 36 #[.agg (wtA n (.slice (some ⟨b, off, none⟩) 2 cap)), .int .i64 kind, .string key] w fun e w' => e = .returned (.bool (xZ n [x, y] kind key)) ∧ Below w.heap.size w w' := by
 have HR : Keep (∀ wx, Below w.heap.size w wx → wx.rangeAt b off (lvA x).toList) := ⟨fun wx hb => by have h := (hL.below hb).at_ 0 x rfl; simpa using h⟩
 have HR2 : Keep (∀ wx, Below w.heap.size w wx → wx.rangeAt b (off + 5) (lvA y).toList) := ⟨fun wx hb => by have h := (hL.below hb).at_ 1 y rfl; simpa using h⟩
 have HX1 : Keep ((lvA x).all (·.oneCell') = true) := ⟨zW (hL.lf x (by simp))⟩
 have HY1 : Keep ((lvA y).all (·.oneCell') = true) := ⟨zW (hL.lf y (by simp))⟩
 have hwn : IntKind.i64.wrap (n - 1) = n - 1 := by rw [IntKind.wrap_i64]; omega
 have hw0 : IntKind.i64.wrap 0 = 0 := by decide
 have hw1 : IntKind.i64.wrap 1 = 1 := by decide
 have hwx : IntKind.i64.wrap (x.num + 1) = x.num + 1 := by rw [IntKind.wrap_i64]; omega
 clear hL hn hx
 go_enter Try.func36, Try.ntmps36
 refine wp_seq_k fun K1 hK1 => rgn (zH 25 (.tmp 0) (wtA n (.slice (some ⟨b, off, none⟩) 2 cap)) fun d w1 hd0 W1 b_ => ?_)
 have B1 : Keep (Below w.heap.size w w1) := ⟨b_⟩
 have gd := lh hd0
 clear b_
 have w0_ : w1.cell? ⟨d, 0, none⟩ = some (.int .i64 n) := W1.o.c 0 rfl
 have w1_ : w1.cell? ⟨d, 1, none⟩ = some (.slice (some ⟨b, off, none⟩) 2 cap) := W1.o.c 1 rfl
 refine Vf (h:=WL.nil (hK1 _ _ (wp_seq_k fun K2 hK2 => wp_seq_k fun K3 hK3 => rgn (Vv (.pointer (some ⟨d, 1, none⟩)) (h:=Vv (.slice (some ⟨b, off, none⟩) 2 cap) (h:=Vv (.int .i64 2) (h:=Vf (h:=WL.nil (hK3 _ _ (Cf (h:=wp_skip (hK2 _ _ (wp_seq_k fun K4 hK4 => ?_)))))))))))))
 have Wd : Keep (Blk w1.drew d 25 (wtA n (.slice (some ⟨b, off, none⟩) 2 cap))) := ⟨W1.o⟩
 have Bd : Keep (Below w.heap.size w w1.drew) := ⟨B1.o.drew⟩
 clear W1 B1 w0_ w1_
 have rest : ∀ (f l : Nat) (w5 : World), Blk w5 f 54 (lvA x) → Blk w5 l 54 (lvA y) → Blk w5 d 25 (wtA n (.slice (some ⟨b, off, none⟩) 2 cap)) → Below w.heap.size w w5 → K4 { tmps := #[.agg (wtA n (.slice (some ⟨b, off, none⟩) 2 cap)), .int .i64 kind, .string key, .pointer (some ⟨d, 0, none⟩), undef, undef, .bool false, .pointer (some ⟨f, 0, none⟩), .pointer (some ⟨l, 0, none⟩), undef, undef, .pointer (some ⟨d, 1, none⟩), .slice (some ⟨b, off, none⟩) 2 cap, .int .i64 2, .bool false, .pointer (some ⟨d, 1, none⟩), .slice (some ⟨b, off, none⟩) 2 cap, .pointer (some ⟨b, off, none⟩), .agg (lvA x), .pointer (some ⟨d, 1, none⟩), .slice (some ⟨b, off, none⟩) 2 cap, .pointer (some ⟨d, 1, none⟩), .slice (some ⟨b, off, none⟩) 2 cap, .int .i64 2, .int .i64 1, .pointer (some ⟨b, off + 5, none⟩), .agg (lvA y), undef, undef, undef, undef, undef, undef, undef, undef, undef, undef, undef, undef, undef, undef, undef, undef, undef, undef, undef, undef, undef, undef, undef, undef, undef, undef, undef, undef, undef, undef, undef, undef, undef, undef, undef, undef, undef, undef, undef, undef, undef, undef, undef, undef, undef, undef, undef, undef, undef, undef, undef], defers := [] } w5 := by
  intro f l w5 hF hL hD hB5
  have F5 := kk hF
  have L5 := kk hL
  have D5 := kk hD
  have B5 := kk hB5
  clear hF hL hD hB5 Wd Bd
  refine hK4 _ _ (wp_seq_k fun K5 hK5 => ?_)
  have Fd : Keep (Blk w5.drew f 54 (lvA x)) := ⟨F5.o⟩
  have Ld : Keep (Blk w5.drew l 54 (lvA y)) := ⟨L5.o⟩
  have Dd : Keep (Blk w5.drew d 25 (wtA n (.slice (some ⟨b, off, none⟩) 2 cap))) := ⟨D5.o⟩
  have Bd : Keep (Below w.heap.size w w5.drew) := ⟨B5.o.drew⟩
  clear F5 L5 D5 B5
  refine wp_region_held_drew (S := fun wx => wx.rangeAt f 1 (cvA x.c).toList ∧ wx.rangeAt l 1 (cvA y.c).toList) (by kernel_rfl) (⟨by have h := zn (ql Fd.o); rw [Nat.zero_add] at h; exact h, by have h := zn (ql Ld.o); rw [Nat.zero_add] at h; exact h⟩) (fun hHeld => ?_)
  refine uS 0 ⟨some 27, .fieldAddr 54 (.tmp 7) 1, 0, _, _, none⟩ (.pointer (some ⟨f, 1, none⟩)) rfl (yi (by rintro w ⟨hS1, hS2⟩; clear hS1 hS2; go_simp)) hHeld ?_
  refine uS 2 ⟨some 29, .move (.tmp 1), 3, _, _, none⟩ (.int .i64 kind) rfl (yi (by rintro w ⟨hS1, hS2⟩; clear hS1 hS2; go_simp)) hHeld ?_
  refine uS 3 ⟨some 30, .move (.tmp 2), 9, _, _, none⟩ (.string key) rfl (yi (by rintro w ⟨hS1, hS2⟩; clear hS1 hS2; go_simp)) hHeld ?_
  refine uS 6 ⟨some 33, .fieldAddr 54 (.tmp 8) 1, 0, _, _, none⟩ (.pointer (some ⟨l, 1, none⟩)) rfl (yi (by rintro w ⟨hS1, hS2⟩; clear hS1 hS2; go_simp)) hHeld ?_
  refine uS 8 ⟨some 35, .move (.tmp 1), 3, _, _, none⟩ (.int .i64 kind) rfl (yi (by rintro w ⟨hS1, hS2⟩; clear hS1 hS2; go_simp)) hHeld ?_
  refine uS 9 ⟨some 36, .move (.tmp 2), 9, _, _, none⟩ (.string key) rfl (yi (by rintro w ⟨hS1, hS2⟩; clear hS1 hS2; go_simp)) hHeld ?_
  refine uS 1 ⟨some 28, .load 44 (.tmp 27), 44, _, _, none⟩ (.agg (cvA x.c)) rfl (qv (by rfl) (.tmp 27) 44 rfl f 1 rfl (cvA x.c) _ Try.underlying44 rfl (qw _ _ _) fun w hS => hS.1) hHeld ?_
  refine uS 7 ⟨some 34, .load 44 (.tmp 33), 44, _, _, none⟩ (.agg (cvA y.c)) rfl (qv (by rfl) (.tmp 33) 44 rfl l 1 rfl (cvA y.c) _ Try.underlying44 rfl (qw _ _ _) fun w hS => hS.2) hHeld ?_
  refine rd1 4 ⟨some 31, .call { callee := .value (.func 46), args := #[.tmp 28, .tmp 29, .tmp 30], argTypes := #[44, 3, 9] }, 3, _, _, none⟩ rfl fun K hK => ?_
  refine qz 46 _ _ rfl xK #[.agg (cvA x.c), .int .i64 kind, .string key] (by simp [Act.eval]) (fun vz wz => vz = .int .i64 s ∧ Below w5.drew.heap.size w5.drew wz) ?_ ?_
  ·refine (zY x.c.k kind x.c.s key x.c.v w5.drew).mono ?_
   rintro e wz ⟨rfl, k1⟩
   exact ⟨_, rfl, by rw [hs.o]; rfl, k1⟩
  rintro vz w6 ⟨rfl, k1⟩
  have F6 := kbx Fd k1
  have L6 := kbx Ld k1
  have D6 := kbx Dd k1
  have B6 := tb Bd k1
  clear k1 Fd Ld Dd Bd
  refine hK _ _ (⟨by have h := zn (ql F6.o); rw [Nat.zero_add] at h; exact h, by have h := zn (ql L6.o); rw [Nat.zero_add] at h; exact h⟩) fun hH_ => kNx ?_
  clear hK
  refine uS 5 ⟨some 32, .binOp BinOp.lss 3 (.tmp 31) (.const (Value.int IntKind.i64 0)) 3, 4, _, _, none⟩ (.bool (decide (s < 0))) rfl (yi (by rintro w ⟨hS1, hS2⟩; clear hS1 hS2; go_simp)) hH_ ?_
  refine rd1 10 ⟨some 37, .call { callee := .value (.func 46), args := #[.tmp 34, .tmp 35, .tmp 36], argTypes := #[44, 3, 9] }, 3, _, _, none⟩ rfl fun K hK => ?_
  refine qz 46 _ _ rfl xK #[.agg (cvA y.c), .int .i64 kind, .string key] (by simp [Act.eval]) (fun vz wz => vz = .int .i64 r ∧ Below w6.heap.size w6 wz) ?_ ?_
  ·refine (zY y.c.k kind y.c.s key y.c.v w6).mono ?_
   rintro e wz ⟨rfl, k1⟩
   exact ⟨_, rfl, by rw [hr.o]; rfl, k1⟩
  rintro vz w7 ⟨rfl, k1⟩
  have F7 := kbx F6 k1
  have L7 := kbx L6 k1
  have D7 := kbx D6 k1
  have B7 := tb B6 k1
  clear k1 F6 L6 D6 B6
  refine hK _ _ (⟨by have h := zn (ql F7.o); rw [Nat.zero_add] at h; exact h, by have h := zn (ql L7.o); rw [Nat.zero_add] at h; exact h⟩) fun hH_ => kNx ?_
  clear hK
  refine uS 11 ⟨some 38, .binOp BinOp.gtr 3 (.tmp 37) (.const (Value.int IntKind.i64 0)) 3, 4, _, _, none⟩ (.bool (decide (0 < r))) rfl (yi (by rintro w ⟨hS1, hS2⟩; clear hS1 hS2; go_simp)) hH_ ?_
  refine uS 12 ⟨some 9, .assign (.tmp 32), 4, _, _, none⟩ (.bool (decide (s < 0))) rfl (yi (by rintro w ⟨hS1, hS2⟩; clear hS1 hS2; go_simp)) hH_ ?_
  refine uS 13 ⟨some 10, .assign (.tmp 38), 4, _, _, none⟩ (.bool (decide (0 < r))) rfl (yi (by rintro w ⟨hS1, hS2⟩; clear hS1 hS2; go_simp)) hH_ ?_
  refine wpAnyH_done (by kernel_rfl) ?_ _
  refine hK5 _ _ (wp_seq_k fun K6 hK6 => wp_seq_k fun K7 hK7 => ?_)
  have w1_ : w7.cell? ⟨d, 1, none⟩ = some (.slice (some ⟨b, off, none⟩) 2 cap) := D7.o.c 1 rfl
  have w0_ : w7.cell? ⟨d, 0, none⟩ = some (.int .i64 n) := D7.o.c 0 rfl
  have f0 : w7.cell? ⟨f, 0, none⟩ = some (.int .i64 x.num) := F7.o.c 0 rfl
  have l0 : w7.cell? ⟨l, 0, none⟩ = some (.int .i64 y.num) := L7.o.c 0 rfl
  refine rgn (Vv (.pointer (some ⟨d, 1, none⟩)) (h:=Vv (.slice (some ⟨b, off, none⟩) 2 cap) (h:=Vv (.int .i64 2) (h:=Vt (h:=WL.nil (hK7 _ _ (Ct (h:=wp_seq_k fun K8 hK8 => ?_))))))))
  by_cases hnx : y.num = x.num + 1
  ·have hnb : (y.num == x.num + 1) = true := by simpa using hnx
   by_cases hsx : s < 0
   ·rw [show decide (s < 0) = true from by simp; omega]
    refine rgn (Vv (.pointer (some ⟨l, 0, none⟩)) (h:=Vv (.int .i64 y.num) (h:=Vv (.pointer (some ⟨f, 0, none⟩)) (h:=Vv (.int .i64 x.num) (h:=Vv (.int .i64 (x.num + 1)) (h:=Vt (h:=Vt (h:=Vt (h:=Vt (h:=Vt (h:=Vv (.bool (decide (0 < r))) (h:=Vv (.bool (decide (0 < r))) (h:=Vv (.bool (decide (0 < r))) (h:=?_))))))))))))))
    refine WL.nil (hK8 _ _ (wp_ret ?_))
    go_ret
    refine ⟨?_, B7.o⟩
    simp only [xZ, ← hs.o, ← hr.o]
    simp [hsx, hnx]
   ·rw [show decide (s < 0) = false from by simp; omega]
    refine rgn (Vv (.pointer (some ⟨l, 0, none⟩)) (h:=Vv (.int .i64 y.num) (h:=Vv (.pointer (some ⟨f, 0, none⟩)) (h:=Vv (.int .i64 x.num) (h:=Vv (.int .i64 (x.num + 1)) (h:=Vt (h:=Vt (h:=Vf (h:=Vf (h:=Vf (h:=Vs (h:=Vf (h:=Vf (h:=?_))))))))))))))
    refine WL.nil (hK8 _ _ (wp_ret ?_))
    go_ret
    refine ⟨?_, B7.o⟩
    simp only [xZ, ← hs.o, ← hr.o]
    simp [hsx]
  ·have hnb : (y.num == x.num + 1) = false := by simpa using hnx
   refine rgn (Vv (.pointer (some ⟨l, 0, none⟩)) (h:=Vv (.int .i64 y.num) (h:=Vv (.pointer (some ⟨f, 0, none⟩)) (h:=Vv (.int .i64 x.num) (h:=Vv (.int .i64 (x.num + 1)) (h:=Vf (h:=Vf (h:=Vs (h:=Vf (h:=Vf (h:=Vs (h:=Vf (h:=Vf (h:=?_))))))))))))))
   refine WL.nil (hK8 _ _ (wp_ret ?_))
   go_ret
   refine ⟨?_, B7.o⟩
   simp [xZ, hnx]
 have hS0 : Keep (∀ wx : World, Below w.heap.size w wx → Blk wx d 25 (wtA n (.slice (some ⟨b, off, none⟩) 2 cap)) → (fun wx => wx.cell? ⟨d, 1, none⟩ = some (.slice (some ⟨b, off, none⟩) 2 cap) ∧ wx.rangeAt b off (lvA x).toList ∧ wx.rangeAt b (off + 5) (lvA y).toList) wx) := ⟨fun wx hb hd => ⟨hd.c 1 rfl, HR.o wx hb, HR2.o wx hb⟩⟩
 refine wp_region_held_drew (S := fun wx => wx.cell? ⟨d, 1, none⟩ = some (.slice (some ⟨b, off, none⟩) 2 cap) ∧ wx.rangeAt b off (lvA x).toList ∧ wx.rangeAt b (off + 5) (lvA y).toList) (by kernel_rfl) (hS0.o _ Bd.o Wd.o) (fun hH0 => ?_)
 generalize w1.drew = w2 at *
 refine uS 0 ⟨some 15, .fieldAddr 25 (.tmp 3) 1, 0, _, _, none⟩ (.pointer (some ⟨d, 1, none⟩)) rfl (yi (by rintro w ⟨hS1, hS2, hS3⟩; clear hS2 hS3; go_simp)) hH0 ?_
 refine uS 4 ⟨some 19, .fieldAddr 25 (.tmp 3) 1, 0, _, _, none⟩ (.pointer (some ⟨d, 1, none⟩)) rfl (yi (by rintro w ⟨hS1, hS2, hS3⟩; clear hS2 hS3; go_simp)) hH0 ?_
 refine uS 6 ⟨some 21, .fieldAddr 25 (.tmp 3) 1, 0, _, _, none⟩ (.pointer (some ⟨d, 1, none⟩)) rfl (yi (by rintro w ⟨hS1, hS2, hS3⟩; clear hS2 hS3; go_simp)) hH0 ?_
 refine uS 1 ⟨some 16, .load 23 (.tmp 15), 23, _, _, none⟩ (.slice (some ⟨b, off, none⟩) 2 cap) rfl (yi (by rintro w ⟨hS1, hS2, hS3⟩; clear hS2 hS3; go_simp)) hH0 ?_
 refine uS 5 ⟨some 20, .load 23 (.tmp 19), 23, _, _, none⟩ (.slice (some ⟨b, off, none⟩) 2 cap) rfl (yi (by rintro w ⟨hS1, hS2, hS3⟩; clear hS2 hS3; go_simp)) hH0 ?_
 refine uS 7 ⟨some 22, .load 23 (.tmp 21), 23, _, _, none⟩ (.slice (some ⟨b, off, none⟩) 2 cap) rfl (yi (by rintro w ⟨hS1, hS2, hS3⟩; clear hS2 hS3; go_simp)) hH0 ?_
 refine uS 2 ⟨some 17, .indexAddr 23 (.tmp 16) (.const (Value.int IntKind.i64 0)), 0, _, _, none⟩ (.pointer (some ⟨b, off, none⟩)) rfl (yi (by rintro w ⟨hS1, hS2, hS3⟩; clear hS2 hS3; go_simp)) hH0 ?_
 refine uS 8 ⟨some 23, .call { callee := .builtin .len, args := #[.tmp 22], argTypes := #[23] }, 3, _, _, none⟩ (.int .i64 2) rfl (yi (by rintro w ⟨hS1, hS2, hS3⟩; clear hS2 hS3; go_simp)) hH0 ?_
 refine uS 3 ⟨some 18, .load 54 (.tmp 17), 54, _, _, none⟩ (.agg (lvA x)) rfl (qv (by rfl) (.tmp 17) 54 rfl b off rfl (lvA x) _ Try.underlying54 rfl (qA x) fun w hS => hS.2.1) hH0 ?_
 refine uS 9 ⟨some 24, .binOp BinOp.sub 3 (.tmp 23) (.const (Value.int IntKind.i64 1)) 3, 3, _, _, none⟩ (.int .i64 1) rfl (yi (by rintro w ⟨hS1, hS2, hS3⟩; clear hS2 hS3; go_simp)) hH0 ?_
 refine uS 10 ⟨some 25, .indexAddr 23 (.tmp 20) (.tmp 24), 0, _, _, none⟩ (.pointer (some ⟨b, off + 5, none⟩)) rfl (yi (by rintro w ⟨hS1, hS2, hS3⟩; clear hS2 hS3; go_simp)) hH0 ?_
 refine uS 11 ⟨some 26, .load 54 (.tmp 25), 54, _, _, none⟩ (.agg (lvA y)) rfl (qv (by rfl) (.tmp 25) 54 rfl b (off + 5) rfl (lvA y) _ Try.underlying54 rfl (qA y) fun w hS => hS.2.2) hH0 ?_
 refine wpAnyH_ready (rs := [12, 13]) (by kernel_rfl) (by simp) ?_
 refine AllReadyH.cons (o := ⟨some 7, .alloc 54, 0, _, _, none⟩) rfl (fun K hK => ?_) (AllReadyH.cons (o := ⟨some 8, .alloc 54, 0, _, _, none⟩) rfl (fun K hK => ?_) AllReadyH.nil)
 ·rw [if_pos (by rfl)]
  refine qK 54 rfl _ zd ?_
  have b_ := qg w2 (.cells zLf 54)
  have Nf := kk (Blk.new w2 54 zLf)
  have D3 := kbx Wd b_
  have B3 := tb Bd b_
  have gf : Keep (w.heap.size ≤ w2.heap.size) := ⟨Bd.o.size⟩
  have ndf : Keep (d ≠ w2.heap.size) := ⟨by have := Wd.o.lt; omega⟩
  generalize w2.alloc (.cells zLf 54) = w3 at *
  obtain ⟨f, hf⟩ := nm w2
  rw [← hf.o] at Nf gf ndf  ⊢
  clear b_ hf
  refine hK _ _ (hS0.o _ B3.o D3.o) fun hH_ => kNx ?_
  clear hK
  refine rd1 13 ⟨some 8, .alloc 54, 0, _, _, none⟩ rfl fun K hK => ?_
  refine qK 54 rfl _ zd ?_
  have b_ := qg w3 (.cells zLf 54)
  have Nl := kk (Blk.new w3 54 zLf)
  have D4 := kbx D3 b_
  have B4 := tb B3 b_
  have gl : Keep (w.heap.size ≤ w3.heap.size) := ⟨B3.o.size⟩
  have ndl : Keep (d ≠ w3.heap.size) := ⟨by have := D3.o.lt; omega⟩
  have Nf' := kbx Nf b_
  have nfl : Keep (f ≠ w3.heap.size) := ⟨by have := Nf.o.lt; omega⟩
  generalize w3.alloc (.cells zLf 54) = w4 at *
  obtain ⟨l, hl⟩ := nm w3
  rw [← hl.o] at Nl gl ndl nfl ⊢
  clear b_ hl
  refine hK _ _ (hS0.o _ B4.o D4.o) fun hH_ => kNx ?_
  clear hK
  refine rd1 14 ⟨none, .store 54 (.tmp 7) (.tmp 18), 0, _, _, none⟩ rfl fun K hK => ?_
  refine wp_store_row 54 (.tmp 7) (.tmp 18) rfl f (lvA x) rfl rfl 54 zLf Nf'.out (qA x) rfl (HX1.o) ?_
  have F5 := kk (Nf'.out.setRow (lvA x))
  have L5 := kk (Nl.o.setRow_ne (Ne.symm nfl.o) (lvA x))
  have D5 := kk (D4.o.setRow_ne ndf.o (lvA x))
  have B5 : Keep (Below w.heap.size w (w4.setRow f (lvA x))) := ⟨qf B4.o gf.o _⟩
  generalize w4.setRow f (lvA x) = w5 at *
  refine hK _ _ (hS0.o _ B5.o D5.o) fun hH_ => kNx ?_
  clear hK
  refine rd1 15 ⟨none, .store 54 (.tmp 8) (.tmp 26), 0, _, _, none⟩ rfl fun K hK => ?_
  refine wp_store_row 54 (.tmp 8) (.tmp 26) rfl l (lvA y) rfl rfl 54 zLf L5.o (qA y) rfl (HY1.o) ?_
  have L6 := kk (L5.o.setRow (lvA y))
  have F6 := kk (F5.o.setRow_ne nfl.o (lvA y))
  have D6 := kk (D5.o.setRow_ne ndl.o (lvA y))
  have B6 : Keep (Below w.heap.size w (w5.setRow l (lvA y))) := ⟨qf B5.o gl.o _⟩
  generalize w5.setRow l (lvA y) = w6 at *
  refine hK _ _ (hS0.o _ B6.o D6.o) fun hH_ => kNx ?_
  clear hK
  refine wpAnyH_done (by kernel_rfl) ?_ _
  exact rest f l w6 F6.o L6.o D6.o B6.o
 ·rw [if_pos (by rfl)]
  refine qK 54 rfl _ zd ?_
  have b_ := qg w2 (.cells zLf 54)
  have Nl := kk (Blk.new w2 54 zLf)
  have D3 := kbx Wd b_
  have B3 := tb Bd b_
  have gl : Keep (w.heap.size ≤ w2.heap.size) := ⟨Bd.o.size⟩
  have ndl : Keep (d ≠ w2.heap.size) := ⟨by have := Wd.o.lt; omega⟩
  generalize w2.alloc (.cells zLf 54) = w3 at *
  obtain ⟨l, hl⟩ := nm w2
  rw [← hl.o] at Nl gl ndl  ⊢
  clear b_ hl
  refine hK _ _ (hS0.o _ B3.o D3.o) fun hH_ => kNx ?_
  clear hK
  refine rd1 12 ⟨some 7, .alloc 54, 0, _, _, none⟩ rfl fun K hK => ?_
  refine qK 54 rfl _ zd ?_
  have b_ := qg w3 (.cells zLf 54)
  have Nf := kk (Blk.new w3 54 zLf)
  have D4 := kbx D3 b_
  have B4 := tb B3 b_
  have gf : Keep (w.heap.size ≤ w3.heap.size) := ⟨B3.o.size⟩
  have ndf : Keep (d ≠ w3.heap.size) := ⟨by have := D3.o.lt; omega⟩
  have Nl' := kbx Nl b_
  have nfl : Keep (l ≠ w3.heap.size) := ⟨by have := Nl.o.lt; omega⟩
  generalize w3.alloc (.cells zLf 54) = w4 at *
  obtain ⟨f, hf⟩ := nm w3
  rw [← hf.o] at Nf gf ndf nfl ⊢
  clear b_ hf
  refine hK _ _ (hS0.o _ B4.o D4.o) fun hH_ => kNx ?_
  clear hK
  refine rd1 14 ⟨none, .store 54 (.tmp 7) (.tmp 18), 0, _, _, none⟩ rfl fun K hK => ?_
  refine wp_store_row 54 (.tmp 7) (.tmp 18) rfl f (lvA x) rfl rfl 54 zLf Nf.o (qA x) rfl (HX1.o) ?_
  have F5 := kk (Nf.o.setRow (lvA x))
  have L5 := kk (Nl'.out.setRow_ne (Ne.symm (Ne.symm nfl.o)) (lvA x))
  have D5 := kk (D4.o.setRow_ne ndf.o (lvA x))
  have B5 : Keep (Below w.heap.size w (w4.setRow f (lvA x))) := ⟨qf B4.o gf.o _⟩
  generalize w4.setRow f (lvA x) = w5 at *
  refine hK _ _ (hS0.o _ B5.o D5.o) fun hH_ => kNx ?_
  clear hK
  refine rd1 15 ⟨none, .store 54 (.tmp 8) (.tmp 26), 0, _, _, none⟩ rfl fun K hK => ?_
  refine wp_store_row 54 (.tmp 8) (.tmp 26) rfl l (lvA y) rfl rfl 54 zLf L5.o (qA y) rfl (HY1.o) ?_
  have L6 := kk (L5.o.setRow (lvA y))
  have F6 := kk (F5.o.setRow_ne (Ne.symm nfl.o) (lvA y))
  have D6 := kk (D5.o.setRow_ne ndl.o (lvA y))
  have B6 : Keep (Below w.heap.size w (w5.setRow l (lvA y))) := ⟨qf B5.o gl.o _⟩
  generalize w5.setRow l (lvA y) = w6 at *
  refine hK _ _ (hS0.o _ B6.o D6.o) fun hH_ => kNx ?_
  clear hK
  refine wpAnyH_done (by kernel_rfl) ?_ _
  exact rest f l w6 F6.o L6.o D6.o B6.o
theorem jL (v : Value) (n kind : Int) (key : ByteArray) (ls : List LV) (w : World) (hL : LsV w.heap.size w v ls) (hF : jT n ls = true) (hn : n < 9223372036854775808) : Calls Try.prog 36 #[.agg (wtA n v), .int .i64 kind, .string key] w fun e w' => e = .returned (.bool (xZ n ls kind key)) ∧ Below w.heap.size w w' := by
 obtain ⟨la, cap, rfl, hA⟩ := hL.form
 unfold jT at hF
 match ls, hA, hF with
 | [], _, _ => exact VO la cap n kind key w
 | [x], hA, hF =>
  obtain ⟨b, off, rfl, h⟩ := hA (by simp)
  have h0 : ¬ n = 0 := fun e => by subst e; simp at hF
  rw [if_neg h0] at hF
  by_cases h1 : n < 0 ∨ [x].length < 1 ∨ 2 < [x].length
  ·rw [if_pos h1] at hF; cases hF
  ·rw [if_neg h1] at hF
   simp [okL] at hF h1
   have hx : 0 ≤ x.num ∧ x.num < n := by omega
   exact VN b off cap n kind key x w _ ⟨rfl⟩ (by omega) hx h
 | [x, y], hA, hF =>
  obtain ⟨b, off, rfl, h⟩ := hA (by simp)
  have h0 : ¬ n = 0 := fun e => by subst e; simp at hF
  rw [if_neg h0] at hF
  by_cases h1 : n < 0 ∨ [x, y].length < 1 ∨ 2 < [x, y].length
  ·rw [if_pos h1] at hF; cases hF
  ·rw [if_neg h1] at hF
   simp [okL] at hF h1
   have hx : 0 ≤ x.num ∧ x.num < n := by omega
   exact VM b off cap n kind key x y w _ ⟨rfl⟩ _ ⟨rfl⟩ (by omega) hx h
 | x :: y :: z :: t, _, hF =>
  have h0 : ¬ n = 0 := fun e => by subst e; simp at hF
  rw [if_neg h0, if_pos (.inr (.inr (by simp)))] at hF
  cases hF
end Go.Proofs.Ytdpcjfafbmhceaa
