import Derived.Test.YtdpcjfafbmhceaaA10
import Derived.Laws.EntriesVeiled
import Derived.Deep.RegionHeld3
set_option maxRecDepth 8000
set_option maxHeartbeats 1000000
namespace Go.Proofs.Ytdpcjfafbmhceaa
open Go.RowKit
set_option linter.unusedSimpArgs false
set_option linter.unusedVariables false
theorem Zf (w : World) : (Instr.alloc 116 true (.tuple #[])).run Try.prog w = .ok (.pointer (some ⟨w.heap.size, 0, none⟩)) (w.alloc (.cells #[.nilFunc] 116)) := by kernel_rfl
theorem QM (x : LV) (n i : Nat) (w : World) (hi : Keep (x.num = (i : Int))) (hin : i < n) (Hn : Keep (n < 9223372036854775808)) (hL : LfAt w.heap.size w x) (hF : (0 ≤ x.c.k ∧ x.c.k < 9223372036854775808) ∧ (x.c.s.size ≤ 140737488351232 ∧ x.c.l.length ≤ 140000000)) (hP : x.ps.length ≤ 4398046511104) :
  Calls Try.prog 56 #[.agg (lvA x), .int .i64 (n : Int)] w (CQ n i x x.ps w) := by
 have HL := kk hL
 have HF := kk hF
 have HP := kk hP
 clear hL hF hP
 go_enter Try.func56, Try.ntmps56
 refine wp_seq_k fun K1 hK1 => rgn (zH 54 (.tmp 0) (lvA x) fun px w1 hpx0 X1 b_ => ?_)
 have B1 : Keep (Below w.heap.size w w1) := ⟨b_⟩
 have gpx := lh hpx0
 clear b_
 refine zU 32 qm fun r w2 hr0 R2 b_ => ?_
 have X2 := kbx X1 b_
 have B2 := tb B1 b_
 have gr : Keep (w.heap.size ≤ r) := ⟨by rw [hr0.o]; exact B1.o.size⟩
 clear b_
 refine Vf (h:=WL.nil (hK1 _ _ (wp_seq_k fun K2 hK2 => rgn (zU 116 Zf fun pd w3 hpd0 D3 b_ => ?_))))
 have X3 := kbx X2 b_
 have R3 := kbx R2 b_
 have B3 := tb B2 b_
 have gpd : Keep (w.heap.size ≤ pd) := ⟨by rw [hpd0.o]; exact B2.o.size⟩
 clear b_
 have f_o := D3.o.frozen 0
 have c_o := D3.o.c 0 (by rfl : (#[.nilFunc] : Array Value)[0]? = some .nilFunc)
 refine WL.nil (hK2 _ _ (wp_seq_k fun K3 hK3 => rgn (Vv (.func (.func 73) #[] #[ptr px, ptr pd]) (h:=?_))))
 refine WL.cell (by kernel_rfl) (w3.setCell ⟨pd, 0, none⟩ (.func (.func 73) #[] #[ptr px, ptr pd])) (by go_simp) ?_
 clear f_o c_o
 have D4 : Keep (Blk (w3.setCell ⟨pd, 0, none⟩ (.func (.func 73) #[] #[ptr px, ptr pd])) pd 116 #[clV px pd]) := ⟨D3.o.set 0 (.func (.func 73) #[] #[ptr px, ptr pd])⟩
 have g_ : Grown w3 (w3.setCell ⟨pd, 0, none⟩ (.func (.func 73) #[] #[ptr px, ptr pd])) (fun k => k = pd) := Grown.setCell w3 pd 0 _ fun _ => rfl
 have B4 : Keep (Below w.heap.size w (w3.setCell ⟨pd, 0, none⟩ (.func (.func 73) #[] #[ptr px, ptr pd]))) := ⟨B3.o.trans (g_.to_below (fun k hk e => by have := gpd.o; omega) B3.o.size)⟩
 have X4 := kk (g_.blk X3.o (zr X3.o D3.o (by decide)))
 have R4 := kk (g_.blk R3.o (zr R3.o D3.o (by decide)))
 generalize w3.setCell ⟨pd, 0, none⟩ (.func (.func 73) #[] #[ptr px, ptr pd]) = w4 at *
 clear g_ D3 X3 R3
 have d0 : w4.cell? ⟨pd, 0, none⟩ = some (.func (.func 73) #[] #[ptr px, ptr pd]) := D4.o.c 0 rfl
 have x0 : w4.cell? ⟨px, 0, none⟩ = some (.int .i64 (i : Int)) := by rw [← hi.o]; exact X4.o.c 0 rfl
 have x4 : w4.cell? ⟨px, 4, none⟩ = some x.pv := X4.o.c 4 rfl
 simp only [Act.put]
 refine WL.nil (hK3 _ _ (wp_seq_k fun K4 hK4 => rgn (Vv (.func (.func 73) #[] #[ptr px, ptr pd]) (h:=Vv (.pointer (some ⟨px, 0, none⟩)) (h:=Vv (.int .i64 (i : Int)) (h:=Vv (.int .i64 (n : Int)) (h:=Vv (.pointer (some ⟨px, 4, none⟩)) (h:=Vv (x.pv) (h:=?_)))))))))
 clear d0 x0 x4
 have L4 := kk ((HL.o.below B4.o).mono B4.o.size)
 refine WL.callC (by kernel_rfl) 73 (.tmp 8) _ _ #[ptr px, ptr pd] rfl rfl xJ #[.int .i64 (i : Int), .int .i64 (n : Int), x.pv, ptr px, ptr pd] (by simp [Act.eval]) ?_
 refine (Gr px pd x HF.o n i w4 (by omega) Hn.o hin ⟨X4.o, D4.o, L4.o.row⟩ L4.o.pa HP.o).mono ?_
 rintro e w5 ⟨cc, ok, rfl, k1, k2⟩
 refine ⟨_, rfl, ?_⟩
 have R5 := kbx R4 k1
 have B5 := tb B4 k1
 have M5 := kk k2
 clear k1 k2 X4 D4 R4 L4
 simp only [Act.put, pqA, pqB, pqC]
 refine Vv (.agg (qb 32 cc)) (h:=Vv (.bool ok) (h:=?_))
 refine StR (qb 32 cc) R5.o (qd _) (qh _ _ _) (qi _ _) ?_
 have R9 := kk (R5.o.setRow (qb 32 cc))
 have B9 : Keep (Below w.heap.size w (w5.setRow r (qb 32 cc))) := ⟨qf B5.o gr.o _⟩
 generalize w5.setRow r (qb 32 cc) = w9 at *
 refine Vv (.bool ok) (h:=WL.nil (hK4 _ _ (wp_ret ?_)))
 try simp only [Exit.inBlock, Exit.then]
 refine bodyPost_ret (v := .tuple #[.agg (qb 32 cc), .bool ok]) (qp Try.results56 _ _ r 32 _ (0, 0) _ _ rfl rfl R9.o Try.underlying32 rfl (qd _)) rfl ⟨cc, ok, rfl, B9.o, M5.o⟩
structure LsAt (B : Nat) (w : World) (b off : Nat) (ls : List LV) : Prop where
 lt : b < B
 at_ : ∀ (i : Nat) (x : LV), ls[i]? = some x → w.rangeAt b (off + i * 5) (lvA x).toList
 lf : ∀ x ∈ ls, LfAt B w x
theorem LsAt.below {B : Nat} {w w' : World} {b off : Nat} {ls : List LV} (h : LsAt B w b off ls) (hb : Below B w w') : LsAt B w' b off ls :=
 ⟨h.lt, fun i x hx => zj (h.at_ i x hx) hb h.lt, fun x hx => (h.lf x hx).below hb⟩
def LsV (B : Nat) (w : World) (v : Value) (ls : List LV) : Prop :=
 (∃ a c, v = .slice a 0 c ∧ ls = []) ∨ ∃ b off cap, v = .slice (some ⟨b, off, none⟩) ls.length cap ∧ ls.length ≤ cap ∧ LsAt B w b off ls
theorem LsV.below {B : Nat} {w w' : World} {v : Value} {ls : List LV} (h : LsV B w v ls) (hb : Below B w w') : LsV B w' v ls := by
 rcases h with h | ⟨b, off, cap, h1, h2, h3⟩
 ·exact .inl h
 ·exact .inr ⟨b, off, cap, h1, h2, h3.below hb⟩
theorem LsV.mono {B B' : Nat} {w : World} {v : Value} {ls : List LV} (h : LsV B w v ls) (hB : B ≤ B') : LsV B' w v ls := by
 rcases h with h | ⟨b, off, cap, h1, h2, h3⟩
 ·exact .inl h
 ·exact .inr ⟨b, off, cap, h1, h2, ⟨Nat.lt_of_lt_of_le h3.lt hB, h3.at_, fun x hx => (h3.lf x hx).mono hB⟩⟩
theorem LsV.form {B : Nat} {w : World} {v : Value} {ls : List LV} (h : LsV B w v ls) : ∃ la cap, v = .slice la ls.length cap ∧ (0 < ls.length → ∃ b off, la = some ⟨b, off, none⟩ ∧ LsAt B w b off ls) := by
 rcases h with ⟨a, c, rfl, rfl⟩ | ⟨b, off, cap, rfl, h2, h3⟩
 ·exact ⟨a, c, rfl, fun h => by simp at h⟩
 ·exact ⟨_, cap, rfl, fun _ => ⟨b, off, rfl, h3⟩⟩
def wtA (n : Int) (v : Value) : Array Value := #[.int .i64 n, v]
theorem zn {w : World} {b o : Nat} {x : LV} (h : w.rangeAt b o (lvA x).toList) : w.rangeAt b (o + 1) (cvA x.c).toList := fun j v hv => by
 have h1 := h (1 + j) v (by
  match j, hv with
  | 0, h => exact h
  | 1, h => exact h
  | 2, h => exact h
  | j + 3, h => simp [cvA] at h)
 rw [show o + 1 + j = o + (1 + j) by omega]; exact h1
def jq (ls : List LV) (kind : Int) (key : ByteArray) : Bool := match ls with
 | [x] => decide (stI x.c.k x.c.s kind key = 0)
 | _ => false
theorem xw (b off cap : Nat) (n kind : Int) (key : ByteArray) (x : LV) (w : World) (hR : ∀ wx, Below w.heap.size w wx → wx.rangeAt b off (lvA x).toList) :
  Calls Try.prog 38 #[.agg (wtA n (.slice (some ⟨b, off, none⟩) 1 cap)), .int .i64 kind, .string key] w fun e w' => e = .returned (.bool (jq [x] kind key)) ∧ Below w.heap.size w w' := by
 have HR := kk hR
 clear hR
 have hbd : (stI x.c.k x.c.s kind key == 0) = decide (stI x.c.k x.c.s kind key = 0) := by rw [Bool.eq_iff_iff]; simp
 go_enter Try.func38, Try.ntmps38
 refine wp_seq_k fun K1 hK1 => rgn (zH 25 (.tmp 0) (wtA n (.slice (some ⟨b, off, none⟩) 1 cap)) fun d w1 hd0 W1 b_ => ?_)
 have B1 : Keep (Below w.heap.size w w1) := ⟨b_⟩
 have gd := lh hd0
 clear b_
 have w0_ : w1.cell? ⟨d, 0, none⟩ = some (.int .i64 n) := W1.o.c 0 rfl
 have w1_ : w1.cell? ⟨d, 1, none⟩ = some (.slice (some ⟨b, off, none⟩) 1 cap) := W1.o.c 1 rfl
 refine Vf (h:=WL.nil (hK1 _ _ (wp_seq_k fun K2 hK2 => rgn (Vv (.pointer (some ⟨d, 1, none⟩)) (h:=Vv (.slice (some ⟨b, off, none⟩) 1 cap) (h:=Vv (.int .i64 1) (h:=Vt (h:=Vt (h:=Vv (.pointer (some ⟨d, 1, none⟩)) (h:=Vv (.slice (some ⟨b, off, none⟩) 1 cap) (h:=Vv (.pointer (some ⟨b, off, none⟩)) (h:=?_))))))))))))
 refine WL.val (by kernel_rfl) (.pointer (some ⟨b, off + 1, none⟩)) (by go_simp) ?_
 clear w0_ w1_
 simp only [Act.put, pqA, pqB, pqC]
 refine WL.midA (by kernel_rfl) 44 (.tmp 15) rfl b (off + 1) rfl (cvA x.c) _ (zn (HR.o w1 B1.o)) Try.underlying44 rfl (qw _ _ _) ?_
 simp only [Act.put, pqA, pqB, pqC]
 refine Vv (.int .i64 kind) (h:=Vv (.string key) (h:=ClS (vs := #[.agg (cvA x.c), .int .i64 kind, .string key]) (zY x.c.k kind x.c.s key x.c.v w1) ?_))
 rintro e w2 ⟨rfl, k1⟩
 refine ⟨_, rfl, ?_⟩
 have B2 := tb B1 k1
 clear k1
 refine Vv (.bool (decide (stI x.c.k x.c.s kind key = 0))) (h:=Vv (.bool (decide (stI x.c.k x.c.s kind key = 0))) (h:=Vv (.bool (decide (stI x.c.k x.c.s kind key = 0))) (h:=WL.nil (hK2 _ _ (wp_ret ?_)))))
 go_ret
 exact ⟨rfl, B2.o⟩
theorem Xu (la : Option Addr) (m cap : Nat) (n kind : Int) (key : ByteArray) (w : World) (hm : ¬ m = 1) :
  Calls Try.prog 38 #[.agg (wtA n (.slice la m cap)), .int .i64 kind, .string key] w fun e w' => e = .returned (.bool false) ∧ Below w.heap.size w w' := by
 have hm' : ((m : Int) == 1) = false := by simp; omega
 go_enter Try.func38, Try.ntmps38
 refine wp_seq_k fun K1 hK1 => rgn (zH 25 (.tmp 0) (wtA n (.slice la m cap)) fun d w1 hd0 W1 b_ => ?_)
 have B1 : Keep (Below w.heap.size w w1) := ⟨b_⟩
 have gd := lh hd0
 clear b_
 have w0_ : w1.cell? ⟨d, 0, none⟩ = some (.int .i64 n) := W1.o.c 0 rfl
 have w1_ : w1.cell? ⟨d, 1, none⟩ = some (.slice la m cap) := W1.o.c 1 rfl
 refine Vf (h:=WL.nil (hK1 _ _ (wp_seq_k fun K2 hK2 => rgn (Vv (.pointer (some ⟨d, 1, none⟩)) (h:=Vv (.slice la m cap) (h:=Vv (.int .i64 (m : Int)) (h:=Vf (h:=Vf (h:=Vs (h:=Vs (h:=Vs (h:=Vs (h:=Vs (h:=Vs (h:=Vs (h:=?_))))))))))))))))
 refine Vs (h:=Vs (h:=Vf (h:=Vf (h:=WL.nil (hK2 _ _ (wp_ret ?_))))))
 go_ret
 exact ⟨rfl, B1.o⟩
theorem KA (v : Value) (n kind : Int) (key : ByteArray) (ls : List LV) (w : World) (hL : LsV w.heap.size w v ls) :
  Calls Try.prog 38 #[.agg (wtA n v), .int .i64 kind, .string key] w fun e w' => e = .returned (.bool (jq ls kind key)) ∧ Below w.heap.size w w' := by
 obtain ⟨la, cap, rfl, hA⟩ := hL.form
 match ls, hA with
 | [], _ => exact Xu la 0 cap n kind key w (by omega)
 | [x], hA =>
  obtain ⟨b, off, rfl, h⟩ := hA (by simp)
  exact xw b off cap n kind key x w fun wx hb => by have := (h.below hb).at_ 0 x rfl; simpa using this
 | x :: y :: r, _ => exact Xu la _ cap n kind key w (by simp)
def okL (n : Int) (x : LV) : Bool := decide (0 ≤ x.num) && (decide (x.num < n) && zi x.c.k)
def jT (n : Int) (ls : List LV) : Bool := if n = 0 then decide (ls.length = 0) else if n < 0 ∨ ls.length < 1 ∨ 2 < ls.length then false else ls.all (okL n)
theorem YN (la : Option Addr) (m cap : Nat) (w : World) : Calls Try.prog 35 #[.agg (wtA 0 (.slice la m cap))] w fun e w' => e = .returned (.bool (decide (m = 0))) ∧ Below w.heap.size w w' := by
 have hm0 : ((m : Int) == 0) = decide (m = 0) := by rw [Bool.eq_iff_iff]; simp
 go_enter Try.func35, Try.ntmps35
 refine wp_seq_k fun K1 hK1 => rgn (zH 25 (.tmp 0) (wtA 0 (.slice la m cap)) fun d w1 hd0 W1 b_ => ?_)
 have B1 : Keep (Below w.heap.size w w1) := ⟨b_⟩
 have gd := lh hd0
 clear b_
 have w0_ : w1.cell? ⟨d, 0, none⟩ = some (.int .i64 0) := W1.o.c 0 rfl
 have w1_ : w1.cell? ⟨d, 1, none⟩ = some (.slice la m cap) := W1.o.c 1 rfl
 refine Vf (h:=WL.nil (hK1 _ _ (wp_seq_k fun K2 hK2 => wp_seq_k fun K3 hK3 => rgn (Vv (.pointer (some ⟨d, 0, none⟩)) (h:=Vv (.int .i64 0) (h:=Vt (h:=WL.nil (hK3 _ _ (Ct (h:=wp_seq_k fun K4 hK4 => rgn (Vv (.pointer (some ⟨d, 1, none⟩)) (h:=Vv (.slice la m cap) (h:=Vv (.int .i64 (m : Int)) (h:=Vv (.bool (decide (m = 0))) (h:=Vv (.bool (decide (m = 0))) (h:=?_))))))))))))))))
 refine WL.nil (hK4 _ _ (wp_ret ?_))
 go_ret
 exact ⟨rfl, B1.o⟩
theorem Ub (la : Option Addr) (m cap : Nat) (n : Int) (w : World) (hn : n < 0) : Calls Try.prog 35 #[.agg (wtA n (.slice la m cap))] w fun e w' => e = .returned (.bool false) ∧ Below w.heap.size w w' := by
 have hn0 : (n == 0) = false := by simp; omega
 have hn0' : ¬ n = 0 := by omega
 go_enter Try.func35, Try.ntmps35
 refine wp_seq_k fun K1 hK1 => rgn (zH 25 (.tmp 0) (wtA n (.slice la m cap)) fun d w1 hd0 W1 b_ => ?_)
 have B1 : Keep (Below w.heap.size w w1) := ⟨b_⟩
 have gd := lh hd0
 clear b_
 have w0_ : w1.cell? ⟨d, 0, none⟩ = some (.int .i64 n) := W1.o.c 0 rfl
 have w1_ : w1.cell? ⟨d, 1, none⟩ = some (.slice la m cap) := W1.o.c 1 rfl
 refine Vf (h:=WL.nil (hK1 _ _ (wp_seq_k fun K2 hK2 => wp_seq_k fun K3 hK3 => rgn (Vv (.pointer (some ⟨d, 0, none⟩)) (h:=Vv (.int .i64 n) (h:=Vf (h:=WL.nil (hK3 _ _ (Cf (h:=wp_skip (hK2 _ _ (wp_seq_k fun K4 hK4 => wp_seq_k fun K5 hK5 => rgn (Vv (.pointer (some ⟨d, 0, none⟩)) (h:=Vv (.int .i64 n) (h:=Vt (h:=?_))))))))))))))))
 refine Vt (h:=Vs (h:=Vs (h:=Vs (h:=Vs (h:=Vt (h:=Vt (h:=Vs (h:=Vs (h:=Vs (h:=Vs (h:=Vt (h:=WL.nil (hK5 _ _ (Ct (h:=?_)))))))))))))))
 refine wp_seq_k fun K6 hK6 => rgn (Vf (h:=WL.nil (hK6 _ _ (wp_ret ?_))))
 go_ret
 exact ⟨rfl, B1.o⟩
theorem Uc (la : Option Addr) (m cap : Nat) (n : Int) (w : World) (hn : 0 < n) (hm : m < 1) : Calls Try.prog 35 #[.agg (wtA n (.slice la m cap))] w fun e w' => e = .returned (.bool false) ∧ Below w.heap.size w w' := by
 have hn0 : (n == 0) = false := by simp; omega
 have hn0' : ¬ n = 0 := by omega
 have hn1 : ¬ n < 0 := by omega
 have hm1 : (m : Int) < 1 := by omega
 go_enter Try.func35, Try.ntmps35
 refine wp_seq_k fun K1 hK1 => rgn (zH 25 (.tmp 0) (wtA n (.slice la m cap)) fun d w1 hd0 W1 b_ => ?_)
 have B1 : Keep (Below w.heap.size w w1) := ⟨b_⟩
 have gd := lh hd0
 clear b_
 have w0_ : w1.cell? ⟨d, 0, none⟩ = some (.int .i64 n) := W1.o.c 0 rfl
 have w1_ : w1.cell? ⟨d, 1, none⟩ = some (.slice la m cap) := W1.o.c 1 rfl
 refine Vf (h:=WL.nil (hK1 _ _ (wp_seq_k fun K2 hK2 => wp_seq_k fun K3 hK3 => rgn (Vv (.pointer (some ⟨d, 0, none⟩)) (h:=Vv (.int .i64 n) (h:=Vf (h:=WL.nil (hK3 _ _ (Cf (h:=wp_skip (hK2 _ _ (wp_seq_k fun K4 hK4 => wp_seq_k fun K5 hK5 => rgn (Vv (.pointer (some ⟨d, 0, none⟩)) (h:=Vv (.int .i64 n) (h:=Vf (h:=?_))))))))))))))))
 refine Vf (h:=Vv (.pointer (some ⟨d, 1, none⟩)) (h:=Vv (.slice la m cap) (h:=Vv (.int .i64 (m : Int)) (h:=Vt (h:=Vt (h:=Vt (h:=Vs (h:=Vs (h:=Vs (h:=Vs (h:=Vt (h:=WL.nil (hK5 _ _ (Ct (h:=?_)))))))))))))))
 refine wp_seq_k fun K6 hK6 => rgn (Vf (h:=WL.nil (hK6 _ _ (wp_ret ?_))))
 go_ret
 exact ⟨rfl, B1.o⟩
theorem YP (la : Option Addr) (m cap : Nat) (n : Int) (w : World) (hn : 0 < n) (hm : 2 < m) : Calls Try.prog 35 #[.agg (wtA n (.slice la m cap))] w fun e w' => e = .returned (.bool false) ∧ Below w.heap.size w w' := by
 have hn0 : (n == 0) = false := by simp; omega
 have hn0' : ¬ n = 0 := by omega
 have hn1 : ¬ n < 0 := by omega
 have hm1 : ¬ (m : Int) < 1 := by omega
 have hm2 : 2 < (m : Int) := by omega
 have hm2' : (m : Int) > 2 := by omega
 go_enter Try.func35, Try.ntmps35
 refine wp_seq_k fun K1 hK1 => rgn (zH 25 (.tmp 0) (wtA n (.slice la m cap)) fun d w1 hd0 W1 b_ => ?_)
 have B1 : Keep (Below w.heap.size w w1) := ⟨b_⟩
 have gd := lh hd0
 clear b_
 have w0_ : w1.cell? ⟨d, 0, none⟩ = some (.int .i64 n) := W1.o.c 0 rfl
 have w1_ : w1.cell? ⟨d, 1, none⟩ = some (.slice la m cap) := W1.o.c 1 rfl
 refine Vf (h:=WL.nil (hK1 _ _ (wp_seq_k fun K2 hK2 => wp_seq_k fun K3 hK3 => rgn (Vv (.pointer (some ⟨d, 0, none⟩)) (h:=Vv (.int .i64 n) (h:=Vf (h:=WL.nil (hK3 _ _ (Cf (h:=wp_skip (hK2 _ _ (wp_seq_k fun K4 hK4 => wp_seq_k fun K5 hK5 => rgn (Vv (.pointer (some ⟨d, 0, none⟩)) (h:=Vv (.int .i64 n) (h:=Vf (h:=?_))))))))))))))))
 refine Vf (h:=Vv (.pointer (some ⟨d, 1, none⟩)) (h:=Vv (.slice la m cap) (h:=Vv (.int .i64 (m : Int)) (h:=Vf (h:=Vf (h:=Vf (h:=Vv (.pointer (some ⟨d, 1, none⟩)) (h:=Vv (.slice la m cap) (h:=Vv (.int .i64 (m : Int)) (h:=Vt (h:=Vt (h:=WL.nil (hK5 _ _ (Ct (h:=?_)))))))))))))))
 refine wp_seq_k fun K6 hK6 => rgn (Vf (h:=WL.nil (hK6 _ _ (wp_ret ?_))))
 go_ret
 exact ⟨rfl, B1.o⟩
def zLf : Array Value := #[.int .i64 0, .int .i64 0, .string ByteArray.empty, .slice none 0 0, .slice none 0 0]
theorem zd (w : World) : (Instr.alloc 54 true (.tuple #[])).run Try.prog w = .ok (.pointer (some ⟨w.heap.size, 0, none⟩)) (w.alloc (.cells zLf 54)) := by kernel_rfl
theorem YO (b off m cap : Nat) (n : Int) (ls : List LV) (w : World) (hml : Keep (ls.length = m)) (hn : 0 < n) (hm1 : 1 ≤ m) (hm2 : m ≤ 2) (hL : LsAt w.heap.size w b off ls) : Calls Try.prog 35 #[.agg (wtA n (.slice (some ⟨b, off, none⟩) m cap))] w fun e w' => e = .returned (.bool (ls.all (okL n))) ∧ Below w.heap.size w w' := by
 have HL := kk hL
 clear hL
 have hn0 : (n == 0) = false := by simp; omega
 have hn0' : ¬ n = 0 := by omega
 have hn1 : ¬ n < 0 := by omega
 have hm3 : ¬ (m : Int) < 1 := by omega
 have hm4 : ¬ 2 < (m : Int) := by omega
 have hm4' : ¬ (m : Int) > 2 := by omega
 go_enter Try.func35, Try.ntmps35
 refine wp_seq_k fun K1 hK1 => rgn (zH 25 (.tmp 0) (wtA n (.slice (some ⟨b, off, none⟩) m cap)) fun d w1 hd0 W1 b_ => ?_)
 have B1 : Keep (Below w.heap.size w w1) := ⟨b_⟩
 have gd := lh hd0
 clear b_
 have w0_ : w1.cell? ⟨d, 0, none⟩ = some (.int .i64 n) := W1.o.c 0 rfl
 have w1_ : w1.cell? ⟨d, 1, none⟩ = some (.slice (some ⟨b, off, none⟩) m cap) := W1.o.c 1 rfl
 refine Vf (h:=WL.nil (hK1 _ _ (wp_seq_k fun K2 hK2 => wp_seq_k fun K3 hK3 => rgn (Vv (.pointer (some ⟨d, 0, none⟩)) (h:=Vv (.int .i64 n) (h:=Vf (h:=WL.nil (hK3 _ _ (Cf (h:=wp_skip (hK2 _ _ (wp_seq_k fun K4 hK4 => wp_seq_k fun K5 hK5 => rgn (Vv (.pointer (some ⟨d, 0, none⟩)) (h:=Vv (.int .i64 n) (h:=Vf (h:=?_))))))))))))))))
 refine Vf (h:=Vv (.pointer (some ⟨d, 1, none⟩)) (h:=Vv (.slice (some ⟨b, off, none⟩) m cap) (h:=Vv (.int .i64 (m : Int)) (h:=Vf (h:=Vf (h:=Vf (h:=Vv (.pointer (some ⟨d, 1, none⟩)) (h:=Vv (.slice (some ⟨b, off, none⟩) m cap) (h:=Vv (.int .i64 (m : Int)) (h:=Vf (h:=Vf (h:=WL.nil (hK5 _ _ (Cf (h:=?_)))))))))))))))
 refine wp_skip (hK4 _ _ (wp_seq_k fun K6 hK6 => wp_seq_k fun K7 hK7 => rgn (Vv (.pointer (some ⟨d, 1, none⟩)) (h:=Vv (.slice (some ⟨b, off, none⟩) m cap) (h:=Vv (.int .i64 (m : Int)) (h:=Vv (.int .i64 0) (h:=WL.nil (hK7 _ _ (wp_block (?_))))))))))
 refine wp_loop (fun ac wr => ∃ (t : Nat), ac = apF (fun f => { tmps := #[.agg (wtA n (.slice (some ⟨b, off, none⟩) m cap)), .pointer (some ⟨d, 0, none⟩), f 2, undef, f 4, .pointer (some ⟨d, 0, none⟩), .int .i64 n, .bool false, undef, undef, undef, undef, .pointer (some ⟨d, 0, none⟩), .int .i64 n, .bool false, .bool false, .pointer (some ⟨d, 1, none⟩), .slice (some ⟨b, off, none⟩) m cap, .int .i64 (m : Int), .bool false, .bool false, .bool false, .pointer (some ⟨d, 1, none⟩), .slice (some ⟨b, off, none⟩) m cap, .int .i64 (m : Int), .bool false, .bool false, .pointer (some ⟨d, 1, none⟩), .slice (some ⟨b, off, none⟩) m cap, .int .i64 (m : Int), .int .i64 (t : Int), f 31, f 32, f 33, f 34, f 35, f 36, f 37, f 38, f 39, f 40, f 41, f 42, f 43, f 44, f 45, f 46, f 47, f 48, f 49, f 50, f 51], defers := [] }) ac ∧ t ≤ m ∧ Blk wr d 25 (wtA n (.slice (some ⟨b, off, none⟩) m cap)) ∧ Below w.heap.size w wr ∧ (∀ (i : Nat) (x : LV), i < t → ls[i]? = some x → okL n x = true)) (fun a _ => m - (intOf (a.tmps.getD 30 undef)).toNat) ⟨0, rfl, by omega, W1.o, B1.o, fun i x hi _ => by omega⟩ ?_
 rintro ac wr ⟨t, hac, ht, hD, hb, hI⟩
 obtain ⟨f, rfl⟩ := unF hac
 have D2 := kk hD
 have B2 := kk hb
 have HI := kk hI
 clear hD hb hI
 try clear w0_ w1_
 by_cases htl : t < m
 ·have htl' : (t : Int) < (m : Int) := by omega
  have hw3 : IntKind.i64.wrap ((t : Int) + 1) = ((t + 1 : Nat) : Int) := by rw [IntKind.wrap_i64]; omega
  obtain ⟨x, Hx⟩ : ∃ z, Keep (ls[t]? = some z) := ⟨ls[t]'(by rw [hml.o]; exact htl), ⟨List.getElem?_eq_getElem _⟩⟩
  have XR : Keep (wr.rangeAt b (off + t * 5) (lvA x).toList) := ⟨(HL.o.below B2.o).at_ t x Hx.o⟩
  have XL : Keep (LfAt w.heap.size wr x) := ⟨(HL.o.below B2.o).lf x (List.mem_of_getElem? Hx.o)⟩
  refine wp_seq_k fun K8 hK8 => rgn (Vt (h:=WL.nil (hK8 _ _ (wp_seq_k fun K9 hK9 => Ct (h:=wp_skip (hK9 _ _ (wp_seq_k fun K10 hK10 => wp_block (wp_seq_k fun K11 hK11 => rgn (Vv (.pointer (some ⟨b, off + t * 5, none⟩)) (h:=?_))))))))))
  refine WL.midA (by kernel_rfl) 54 (.tmp 32) rfl b (off + t * 5) rfl (lvA x) _ XR.o Try.underlying54 rfl (qA x) ?_
  simp only [Act.put, pqA, pqB, pqC]
  refine WL.new (by kernel_rfl) 54 rfl _ zd ?_
  have b_ := qg wr (.cells zLf 54)
  have Z3 := kk (Blk.new wr 54 zLf)
  change WL _ _ _ _ _ (wr.alloc (.cells zLf 54))
  generalize wr.alloc (.cells zLf 54) = w3 at *
  obtain ⟨z, hz⟩ := nm wr
  rw [← hz.o] at Z3 ⊢
  have D3 := kbx D2 b_
  have nz : Keep (d ≠ z) := ⟨by have := D2.o.lt; have := hz.o; omega⟩
  have B3 := tb B2 b_
  have gz : Keep (w.heap.size ≤ z) := ⟨by rw [hz.o]; exact B2.o.size⟩
  clear b_ hz
  simp only [Act.put, pqA, pqB, pqC]
  refine StR (lvA x) Z3.o (qA x) rfl (zW XL.o) ?_
  have Z4 := kk (Z3.o.setRow (lvA x))
  have D4 := kk (D3.o.setRow_ne nz.o (lvA x))
  have B4 : Keep (Below w.heap.size w (w3.setRow z (lvA x))) := ⟨qf B3.o gz.o _⟩
  generalize w3.setRow z (lvA x) = w4 at *
  have z0 : w4.cell? ⟨z, 0, none⟩ = some (.int .i64 x.num) := Z4.o.c 0 rfl
  have z1 : w4.cell? ⟨z, 1, none⟩ = some (.int .i64 x.c.k) := Z4.o.c 1 rfl
  have dn : w4.cell? ⟨d, 0, none⟩ = some (.int .i64 n) := D4.o.c 0 rfl
  refine WL.nil (hK11 _ _ (wp_seq_k fun K12 hK12 => ?_))
  by_cases a1 : x.num < 0
  ·have HB_ : Keep (okL n x = false) := ⟨by simp [okL]; omega⟩
   refine rgn (Vv (.pointer (some ⟨z, 0, none⟩)) (h:=Vv (.int .i64 x.num) (h:=Vt (h:=Vt (h:=Vs (h:=Vs (h:=Vs (h:=Vs (h:=Vs (h:=Vt (h:=Vt (h:=Vs (h:=Vs (h:=?_))))))))))))))
   refine Vs (h:=Vs (h:=Vs (h:=Vt (h:=WL.nil (hK12 _ _ (Ct (h:=wp_seq_k fun K13 hK13 => rgn (Vf (h:=WL.nil (hK13 _ _ (wp_ret ?_)))))))))))
   try simp only [Exit.inBlock, Exit.then]
   go_ret
   refine ⟨?_, B4.o⟩
   rw [show ls.all (okL n) = false from by
    rw [List.all_eq_false]
    exact ⟨x, List.mem_of_getElem? Hx.o, by rw [HB_.o]; simp⟩]
   rfl
  ·by_cases a2 : n ≤ x.num
   ·have HB_ : Keep (okL n x = false) := ⟨by simp [okL]; omega⟩
    have a2' : x.num ≥ n := a2
    refine rgn (Vv (.pointer (some ⟨z, 0, none⟩)) (h:=Vv (.int .i64 x.num) (h:=Vf (h:=Vf (h:=Vv (.pointer (some ⟨z, 0, none⟩)) (h:=Vv (.int .i64 x.num) (h:=Vv (.pointer (some ⟨d, 0, none⟩)) (h:=Vv (.int .i64 n) (h:=Vt (h:=Vt (h:=Vt (h:=Vs (h:=Vs (h:=?_))))))))))))))
    refine Vs (h:=Vs (h:=Vs (h:=Vt (h:=WL.nil (hK12 _ _ (Ct (h:=wp_seq_k fun K14 hK14 => rgn (Vf (h:=WL.nil (hK14 _ _ (wp_ret ?_)))))))))))
    try simp only [Exit.inBlock, Exit.then]
    go_ret
    refine ⟨?_, B4.o⟩
    rw [show ls.all (okL n) = false from by
     rw [List.all_eq_false]
     exact ⟨x, List.mem_of_getElem? Hx.o, by rw [HB_.o]; simp⟩]
    rfl
   ·have a2' : ¬ x.num ≥ n := a2
    cases hkm : zi x.c.k
    ·have HB_ : Keep (okL n x = false) := ⟨by simp [okL, hkm]⟩
     refine rgn (Vv (.pointer (some ⟨z, 0, none⟩)) (h:=Vv (.int .i64 x.num) (h:=Vf (h:=Vf (h:=Vv (.pointer (some ⟨z, 0, none⟩)) (h:=Vv (.int .i64 x.num) (h:=Vv (.pointer (some ⟨d, 0, none⟩)) (h:=Vv (.int .i64 n) (h:=Vf (h:=Vf (h:=Vf (h:=Vv (.pointer (some ⟨z, 1, none⟩)) (h:=Vv (.pointer (some ⟨z, 1, none⟩)) (h:=?_))))))))))))))
     refine Vv (.int .i64 x.c.k) (h:=ClS (vs := #[.int .i64 x.c.k]) (zL x.c.k _) ?_)
     rintro e w1_ ⟨rfl, hw_⟩
     refine ⟨_, rfl, ?_⟩
     have hw_ := hw_.symm
     subst hw_
     rw [hkm]
     refine Vt (h:=Vt (h:=WL.nil (hK12 _ _ (Ct (h:=wp_seq_k fun K15 hK15 => rgn (Vf (h:=WL.nil (hK15 _ _ (wp_ret ?_)))))))))
     try simp only [Exit.inBlock, Exit.then]
     go_ret
     refine ⟨?_, B4.o⟩
     rw [show ls.all (okL n) = false from by
      rw [List.all_eq_false]
      exact ⟨x, List.mem_of_getElem? Hx.o, by rw [HB_.o]; simp⟩]
     rfl
    ·have HG_ : Keep (okL n x = true) := ⟨by simp [okL, hkm]; omega⟩
     refine rgn (Vv (.pointer (some ⟨z, 0, none⟩)) (h:=Vv (.int .i64 x.num) (h:=Vf (h:=Vf (h:=Vv (.pointer (some ⟨z, 0, none⟩)) (h:=Vv (.int .i64 x.num) (h:=Vv (.pointer (some ⟨d, 0, none⟩)) (h:=Vv (.int .i64 n) (h:=Vf (h:=Vf (h:=Vf (h:=Vv (.pointer (some ⟨z, 1, none⟩)) (h:=Vv (.pointer (some ⟨z, 1, none⟩)) (h:=?_))))))))))))))
     refine Vv (.int .i64 x.c.k) (h:=ClS (vs := #[.int .i64 x.c.k]) (zL x.c.k _) ?_)
     rintro e w1_ ⟨rfl, hw_⟩
     refine ⟨_, rfl, ?_⟩
     have hw_ := hw_.symm
     subst hw_
     rw [hkm]
     refine Vf (h:=Vf (h:=WL.nil (hK12 _ _ (Cf (h:=wp_skip (hK10 _ _ (rgn (Vv (.int .i64 ((t + 1 : Nat) : Int)) (h:=Vv (.int .i64 ((t + 1 : Nat) : Int)) (h:=?_))))))))))
     refine WL.nil ?_
     refine ⟨⟨t + 1, rfl, by omega, D4.o, B4.o, fun i y hi hy => ?_⟩, ?_⟩
     ·by_cases e : i = t
      ·subst e; rw [Hx.o] at hy; injection hy with hy; subst hy; exact HG_.o
      ·exact HI.o i y (by omega) hy
     ·simp only [intOf]; show m - (((t + 1 : Nat) : Int)).toNat < m - ((t : Int)).toNat; omega
 ·have htl' : ¬ (t : Int) < (m : Int) := by omega
  refine wp_seq_k fun K16 hK16 => rgn (Vf (h:=WL.nil (hK16 _ _ (wp_seq_k fun K17 hK17 => Cf (h:=wp_exit (hK6 _ _ (wp_seq_k fun K18 hK18 => rgn (Vt (h:=WL.nil (hK18 _ _ (wp_ret ?_)))))))))))
  try simp only [Exit.inBlock, Exit.then]
  go_ret
  refine ⟨?_, B2.o⟩
  rw [show ls.all (okL n) = true from by
   rw [List.all_eq_true]
   intro x hx
   obtain ⟨i, hi, e⟩ := List.getElem_of_mem hx
   exact HI.o i x (by rw [hml.o] at hi; omega) (by rw [List.getElem?_eq_getElem hi, e])]
  rfl
theorem jG (v : Value) (n : Int) (ls : List LV) (w : World) (hL : LsV w.heap.size w v ls) : Calls Try.prog 35 #[.agg (wtA n v)] w fun e w' => e = .returned (.bool (jT n ls)) ∧ Below w.heap.size w w' := by
 obtain ⟨la, cap, rfl, hA⟩ := hL.form
 unfold jT
 by_cases h0 : n = 0
 ·subst h0; rw [if_pos rfl]; exact YN la _ cap w
 ·rw [if_neg h0]
  by_cases h1 : n < 0
  ·rw [if_pos (.inl h1)]; exact Ub la _ cap n w h1
  ·by_cases h2 : ls.length < 1
   ·rw [if_pos (.inr (.inl h2))]; exact Uc la _ cap n w (by omega) h2
   ·by_cases h3 : 2 < ls.length
    ·rw [if_pos (.inr (.inr h3))]; exact YP la _ cap n w (by omega) h3
    ·rw [if_neg (by omega)]
     obtain ⟨b, off, rfl, h⟩ := hA (by omega)
     exact YO b off _ cap n ls w ⟨rfl⟩ (by omega) (by omega) (by omega) h
theorem eqB {a b : Array Value} {x y : Hs} {c : Bool} (ha : a = qb 32 x.f) (hb : b = qb 32 y.f) (hc : decide (x = y) = c) (w : World) : (Op.equalIn 10000 32 (.agg a) (.agg b)).run Try.prog w = .ok c w := by
 rw [ha, hb, jC, Xn, hc]
theorem Vp {x y : Hs} (h : hsL x = hsL y) : x = y := by
 refine Hs.ext' fun i hi => ?_
 have h1 : (hl 32 x.f).getD i 0 = (hl 32 y.f).getD i 0 := congrArg (fun l : List Int => l.getD i 0) h
 rw [QX _ _ _ hi, QX _ _ _ hi] at h1
 exact h1
def vw (n : Nat) (x : LV) (root : Hs) : Bool := match zu n x.num.toNat (lfH x) x.ps with
 | some (t, _) => decide (kO (RtP.topR le8 n t) = root)
 | none => false
def rtB (n : Int) (ls : List LV) (root : Hs) : Bool := if n = 0 then decide (kO (2 :: (le8 0 ++ [])) = root) else ls.all fun x => vw n.toNat x root
def SmL (ls : List LV) : Prop := ∀ x ∈ ls, (x.c.s.size ≤ 140737488351232 ∧ x.c.l.length ≤ 140000000) ∧ x.ps.length ≤ 4398046511104
theorem Yk (la : Option Addr) (m cap : Nat) (hr h0 : Array Value) (root x0 : Hs) (w : World) (hre : Keep (hr = qb 32 root.f)) (h0e : Keep (h0 = qb 32 x0.f)) (hx0 : Keep (x0 = kO (2 :: (le8 0 ++ [])))) (HE : Keep (decide (x0 = root) = true)) :
  Calls Try.prog 37 #[.agg (wtA 0 (.slice la m cap)), .agg hr] w fun e w' => e = .returned (.bool true) ∧ Below w.heap.size w w' := by
 go_enter Try.func37, Try.ntmps37
 refine wp_seq_k fun K1 hK1 => rgn (zH 25 (.tmp 0) (wtA 0 (.slice la m cap)) fun d w1 hd0 W1 b_ => ?_)
 have B1 : Keep (Below w.heap.size w w1) := ⟨b_⟩
 have gd := lh hd0
 clear b_
 have w0_ : w1.cell? ⟨d, 0, none⟩ = some (.int .i64 0) := W1.o.c 0 rfl
 have w1_ : w1.cell? ⟨d, 1, none⟩ = some (.slice la m cap) := W1.o.c 1 rfl
 refine zH 32 (.tmp 1) hr fun g w2 hg0 G2 b_ => ?_
 have W2 := kbx W1 b_
 have B2 := tb B1 b_
 have gg : Keep (w.heap.size ≤ g) := ⟨by rw [hg0.o]; exact B1.o.size⟩
 clear b_
 clear w0_ w1_
 have w0_ : w2.cell? ⟨d, 0, none⟩ = some (.int .i64 0) := W2.o.c 0 rfl
 have w1_ : w2.cell? ⟨d, 1, none⟩ = some (.slice la m cap) := W2.o.c 1 rfl
 refine Vf (h:=WL.nil (hK1 _ _ (wp_seq_k fun K2 hK2 => wp_seq_k fun K3 hK3 => rgn (Vv (.pointer (some ⟨d, 0, none⟩)) (h:=Vv (.int .i64 0) (h:=Vt (h:=WL.nil (hK3 _ _ (Ct (h:=wp_seq_k fun K4 hK4 => ?_))))))))))
 have Gd : Keep (Blk w2.drew g 32 hr) := ⟨G2.o⟩
 have Bd : Keep (Below w.heap.size w w2.drew) := ⟨B2.o.drew⟩
 clear G2 B2 w0_ w1_
 refine wp_region_held_drew (S := fun wx => wx.rangeAt g 0 hr.toList) (by kernel_rfl) (ql Gd.o) (fun hHeld => ?_)
 refine uS 1 ⟨some 13, .load 32 (.tmp 3), 32, _, _, none⟩ (.agg hr) rfl (qv (by rfl) (.tmp 3) 32 rfl g 0 rfl hr _ Try.underlying32 rfl (by rw [hre.o]; exact qd _) fun w hS => hS) hHeld ?_
 refine rd1 0 ⟨some 12, .call { callee := .value (.func 24), args := #[.const (Value.int IntKind.i64 0), .const (Value.slice none 0 0)], argTypes := #[3, 48] }, 32, _, _, none⟩ rfl fun K hK => ?_
 refine qz 24 _ _ rfl yO #[.int .i64 ((0 : Nat) : Int), .slice none 0 0] (by simp [Act.eval]) (fun vz wz => vz = .agg h0 ∧ Below w2.drew.heap.size w2.drew wz) ?_ ?_
 ·refine (jw 0 (.slice none 0 0) [] [] w2.drew ⟨rfl, fun j u l h _ => by simp at h, .inl ⟨rfl, rfl⟩⟩ (by simp) (by simp)).mono ?_
  rintro e wz ⟨rfl, k1⟩
  exact ⟨_, rfl, by rw [h0e.o, hx0.o, ← zT, ← yw]; rfl, k1⟩
 rintro vz w3 ⟨rfl, k1⟩
 have G3 := kbx Gd k1
 have B3 := tb Bd k1
 clear k1 Gd Bd
 refine hK _ _ (ql G3.o) fun hH1 => kNx ?_
 clear hK
 refine uS 2 ⟨some 14, .binOp BinOp.eql 32 (.tmp 12) (.tmp 13) 32, 4, _, _, none⟩ (.bool true) rfl (yi fun w hS => by have hq_ := eqB h0e.o hre.o HE.o w; clear hS; go_simp) hH1 ?_
 refine uG 3 ⟨some 4, .assign (.tmp 14), 4, _, _, none⟩ (.bool true) rfl hH1 ?_
 refine wpAnyH_done (by kernel_rfl) ?_ _
 refine hK4 _ _ (wp_ret ?_)
 go_ret
 exact ⟨rfl, B3.o⟩
theorem Yl (la : Option Addr) (m cap : Nat) (hr h0 : Array Value) (root x0 : Hs) (w : World) (hre : Keep (hr = qb 32 root.f)) (h0e : Keep (h0 = qb 32 x0.f)) (hx0 : Keep (x0 = kO (2 :: (le8 0 ++ [])))) (HE : Keep (decide (x0 = root) = false)) :
  Calls Try.prog 37 #[.agg (wtA 0 (.slice la m cap)), .agg hr] w fun e w' => e = .returned (.bool false) ∧ Below w.heap.size w w' := by
 go_enter Try.func37, Try.ntmps37
 refine wp_seq_k fun K1 hK1 => rgn (zH 25 (.tmp 0) (wtA 0 (.slice la m cap)) fun d w1 hd0 W1 b_ => ?_)
 have B1 : Keep (Below w.heap.size w w1) := ⟨b_⟩
 have gd := lh hd0
 clear b_
 have w0_ : w1.cell? ⟨d, 0, none⟩ = some (.int .i64 0) := W1.o.c 0 rfl
 have w1_ : w1.cell? ⟨d, 1, none⟩ = some (.slice la m cap) := W1.o.c 1 rfl
 refine zH 32 (.tmp 1) hr fun g w2 hg0 G2 b_ => ?_
 have W2 := kbx W1 b_
 have B2 := tb B1 b_
 have gg : Keep (w.heap.size ≤ g) := ⟨by rw [hg0.o]; exact B1.o.size⟩
 clear b_
 clear w0_ w1_
 have w0_ : w2.cell? ⟨d, 0, none⟩ = some (.int .i64 0) := W2.o.c 0 rfl
 have w1_ : w2.cell? ⟨d, 1, none⟩ = some (.slice la m cap) := W2.o.c 1 rfl
 refine Vf (h:=WL.nil (hK1 _ _ (wp_seq_k fun K2 hK2 => wp_seq_k fun K3 hK3 => rgn (Vv (.pointer (some ⟨d, 0, none⟩)) (h:=Vv (.int .i64 0) (h:=Vt (h:=WL.nil (hK3 _ _ (Ct (h:=wp_seq_k fun K4 hK4 => ?_))))))))))
 have Gd : Keep (Blk w2.drew g 32 hr) := ⟨G2.o⟩
 have Bd : Keep (Below w.heap.size w w2.drew) := ⟨B2.o.drew⟩
 clear G2 B2 w0_ w1_
 refine wp_region_held_drew (S := fun wx => wx.rangeAt g 0 hr.toList) (by kernel_rfl) (ql Gd.o) (fun hHeld => ?_)
 refine uS 1 ⟨some 13, .load 32 (.tmp 3), 32, _, _, none⟩ (.agg hr) rfl (qv (by rfl) (.tmp 3) 32 rfl g 0 rfl hr _ Try.underlying32 rfl (by rw [hre.o]; exact qd _) fun w hS => hS) hHeld ?_
 refine rd1 0 ⟨some 12, .call { callee := .value (.func 24), args := #[.const (Value.int IntKind.i64 0), .const (Value.slice none 0 0)], argTypes := #[3, 48] }, 32, _, _, none⟩ rfl fun K hK => ?_
 refine qz 24 _ _ rfl yO #[.int .i64 ((0 : Nat) : Int), .slice none 0 0] (by simp [Act.eval]) (fun vz wz => vz = .agg h0 ∧ Below w2.drew.heap.size w2.drew wz) ?_ ?_
 ·refine (jw 0 (.slice none 0 0) [] [] w2.drew ⟨rfl, fun j u l h _ => by simp at h, .inl ⟨rfl, rfl⟩⟩ (by simp) (by simp)).mono ?_
  rintro e wz ⟨rfl, k1⟩
  exact ⟨_, rfl, by rw [h0e.o, hx0.o, ← zT, ← yw]; rfl, k1⟩
 rintro vz w3 ⟨rfl, k1⟩
 have G3 := kbx Gd k1
 have B3 := tb Bd k1
 clear k1 Gd Bd
 refine hK _ _ (ql G3.o) fun hH1 => kNx ?_
 clear hK
 refine uS 2 ⟨some 14, .binOp BinOp.eql 32 (.tmp 12) (.tmp 13) 32, 4, _, _, none⟩ (.bool false) rfl (yi fun w hS => by have hq_ := eqB h0e.o hre.o HE.o w; clear hS; go_simp) hH1 ?_
 refine uG 3 ⟨some 4, .assign (.tmp 14), 4, _, _, none⟩ (.bool false) rfl hH1 ?_
 refine wpAnyH_done (by kernel_rfl) ?_ _
 refine hK4 _ _ (wp_ret ?_)
 go_ret
 exact ⟨rfl, B3.o⟩
theorem UZ (b off m cap n : Nat) (ls : List LV) (hr : Array Value) (root : Hs) (w : World) (hre : Keep (hr = qb 32 root.f)) (hml : Keep (ls.length = m)) (hn : 0 < n) (Hn : Keep (n < 9223372036854775808)) (hm2 : m ≤ 2) (hO : ∀ x ∈ ls, okL (n : Int) x = true) (hSm : SmL ls) (hL : LsAt w.heap.size w b off ls) : Calls Try.prog 37 #[.agg (wtA (n : Int) (.slice (some ⟨b, off, none⟩) m cap)), .agg hr] w fun e w' => e = .returned (.bool (ls.all fun x => vw n x root)) ∧ Below w.heap.size w w' := by
 have HL := kk hL
 have HO := kk hO
 have HSm := kk hSm
 clear hL hO hSm
 have hn0 : ((n : Int) == 0) = false := by simp; omega
 have hn0' : ¬ n = 0 := by omega
 go_enter Try.func37, Try.ntmps37
 refine wp_seq_k fun K1 hK1 => rgn (zH 25 (.tmp 0) (wtA (n : Int) (.slice (some ⟨b, off, none⟩) m cap)) fun d w1 hd0 W1 b_ => ?_)
 have B1 : Keep (Below w.heap.size w w1) := ⟨b_⟩
 have gd := lh hd0
 clear b_
 have w0_ : w1.cell? ⟨d, 0, none⟩ = some (.int .i64 (n : Int)) := W1.o.c 0 rfl
 have w1_ : w1.cell? ⟨d, 1, none⟩ = some (.slice (some ⟨b, off, none⟩) m cap) := W1.o.c 1 rfl
 refine zH 32 (.tmp 1) hr fun g w2 hg0 G2 b_ => ?_
 have W2 := kbx W1 b_
 have B2 := tb B1 b_
 have gg : Keep (w.heap.size ≤ g) := ⟨by rw [hg0.o]; exact B1.o.size⟩
 clear b_
 clear w0_ w1_
 have w0_ : w2.cell? ⟨d, 0, none⟩ = some (.int .i64 (n : Int)) := W2.o.c 0 rfl
 have w1_ : w2.cell? ⟨d, 1, none⟩ = some (.slice (some ⟨b, off, none⟩) m cap) := W2.o.c 1 rfl
 refine Vf (h:=WL.nil (hK1 _ _ (wp_seq_k fun K2 hK2 => wp_seq_k fun K3 hK3 => rgn (Vv (.pointer (some ⟨d, 0, none⟩)) (h:=Vv (.int .i64 (n : Int)) (h:=Vf (h:=WL.nil (hK3 _ _ (Cf (h:=wp_skip (hK2 _ _ (wp_seq_k fun K4 hK4 => wp_seq_k fun K5 hK5 => rgn (Vv (.pointer (some ⟨d, 1, none⟩)) (h:=Vv (.slice (some ⟨b, off, none⟩) m cap) (h:=Vv (.int .i64 (m : Int)) (h:=?_))))))))))))))))
 refine Vv (.int .i64 0) (h:=WL.nil (hK5 _ _ (wp_block (?_))))
 refine wp_loop (fun ac wr => ∃ (t : Nat), ac = apF (fun f => { tmps := #[.agg (wtA (n : Int) (.slice (some ⟨b, off, none⟩) m cap)), .agg hr, .pointer (some ⟨d, 0, none⟩), .pointer (some ⟨g, 0, none⟩), f 4, undef, f 6, f 7, f 8, .pointer (some ⟨d, 0, none⟩), .int .i64 (n : Int), .bool false, undef, undef, undef, .pointer (some ⟨d, 1, none⟩), .slice (some ⟨b, off, none⟩) m cap, .int .i64 (m : Int), .int .i64 (t : Int), f 19, f 20, f 21, f 22, f 23, f 24, f 25, f 26, f 27, f 28, f 29, f 30, f 31, f 32, f 33, f 34, f 35, f 36, f 37, f 38, f 39, f 40], defers := [] }) ac ∧ t ≤ m ∧ Blk wr d 25 (wtA (n : Int) (.slice (some ⟨b, off, none⟩) m cap)) ∧ Blk wr g 32 hr ∧ Below w.heap.size w wr ∧ (∀ (i : Nat) (x : LV), i < t → ls[i]? = some x → vw n x root = true)) (fun a _ => m - (intOf (a.tmps.getD 18 undef)).toNat) ⟨0, rfl, by omega, W2.o, G2.o, B2.o, fun i x hi _ => by omega⟩ ?_
 rintro ac wr ⟨t, hac, ht, hD, hG, hb, hI⟩
 obtain ⟨f, rfl⟩ := unF hac
 have D2 := kk hD
 have H2 := kk hG
 have Be2 := kk hb
 have HI := kk hI
 clear hD hG hb hI
 try clear w0_ w1_
 by_cases htl : t < m
 ·have htl' : (t : Int) < (m : Int) := by omega
  have hw3 : IntKind.i64.wrap ((t : Int) + 1) = ((t + 1 : Nat) : Int) := by rw [IntKind.wrap_i64]; omega
  obtain ⟨x, Hx⟩ : ∃ z, Keep (ls[t]? = some z) := ⟨ls[t]'(by rw [hml.o]; exact htl), ⟨List.getElem?_eq_getElem _⟩⟩
  have XR : Keep (wr.rangeAt b (off + t * 5) (lvA x).toList) := ⟨(HL.o.below Be2.o).at_ t x Hx.o⟩
  have XL : Keep (LfAt w.heap.size wr x) := ⟨(HL.o.below Be2.o).lf x (List.mem_of_getElem? Hx.o)⟩
  have HOx : Keep (okL (n : Int) x = true) := ⟨HO.o x (List.mem_of_getElem? Hx.o)⟩
  obtain ⟨i, hi⟩ : ∃ i : Nat, Keep (x.num = (i : Int)) := ⟨x.num.toNat, ⟨by have h := HOx.o; unfold okL at h; simp at h; omega⟩⟩
  have Hin : Keep (i < n) := ⟨by have h := HOx.o; have h2 := hi.o; unfold okL at h; simp at h; omega⟩
  have HFx : Keep ((0 ≤ x.c.k ∧ x.c.k < 9223372036854775808) ∧ (x.c.s.size ≤ 140737488351232 ∧ x.c.l.length ≤ 140000000)) := ⟨by have h := HOx.o; have h2 := HSm.o x (List.mem_of_getElem? Hx.o); unfold okL zi at h; simp at h; omega⟩
  refine wp_seq_k fun K6 hK6 => rgn (Vt (h:=WL.nil (hK6 _ _ (wp_seq_k fun K7 hK7 => Ct (h:=wp_skip (hK7 _ _ (wp_seq_k fun K8 hK8 => wp_block (wp_seq_k fun K9 hK9 => rgn (Vv (.pointer (some ⟨b, off + t * 5, none⟩)) (h:=?_))))))))))
  refine WL.midA (by kernel_rfl) 54 (.tmp 20) rfl b (off + t * 5) rfl (lvA x) _ XR.o Try.underlying54 rfl (qA x) ?_
  simp only [Act.put, pqA, pqB, pqC]
  refine WL.new (by kernel_rfl) 54 rfl _ zd ?_
  have b_ := qg wr (.cells zLf 54)
  have Z3 := kk (Blk.new wr 54 zLf)
  change WL _ _ _ _ _ (wr.alloc (.cells zLf 54))
  generalize wr.alloc (.cells zLf 54) = w3 at *
  obtain ⟨z, hz⟩ := nm wr
  rw [← hz.o] at Z3 ⊢
  have D3 := kbx D2 b_
  have H3 := kbx H2 b_
  have nz : Keep (d ≠ z) := ⟨by have := D2.o.lt; have := hz.o; omega⟩
  have nz2 : Keep (g ≠ z) := ⟨by have := H2.o.lt; have := hz.o; omega⟩
  have Be3 := tb Be2 b_
  have gz : Keep (w.heap.size ≤ z) := ⟨by rw [hz.o]; exact Be2.o.size⟩
  clear b_ hz
  simp only [Act.put, pqA, pqB, pqC]
  refine StR (lvA x) Z3.o (qA x) rfl (zW XL.o) ?_
  have Z4 := kk (Z3.o.setRow (lvA x))
  have D4 := kk (D3.o.setRow_ne nz.o (lvA x))
  have H4 := kk (H3.o.setRow_ne nz2.o (lvA x))
  have Be4 : Keep (Below w.heap.size w (w3.setRow z (lvA x))) := ⟨qf Be3.o gz.o _⟩
  generalize w3.setRow z (lvA x) = w4 at *
  have dn : w4.cell? ⟨d, 0, none⟩ = some (.int .i64 (n : Int)) := D4.o.c 0 rfl
  refine WL.nil (hK9 _ _ (wp_seq_k fun K10 hK10 => rgn (Vr Z4.o (qA x) (h:=Vv (.pointer (some ⟨d, 0, none⟩)) (h:=Vv (.int .i64 (n : Int)) (h:=?_))))))
  clear dn
  refine ClS (vs := #[.agg (lvA x), .int .i64 (n : Int)]) (QM x n i w4 hi Hin.o Hn ((((HL.o.below Be4.o).lf x (List.mem_of_getElem? Hx.o))).mono Be4.o.size) HFx.o (HSm.o x (List.mem_of_getElem? Hx.o)).2) ?_
  rintro e w5 ⟨cc, ok, rfl, k1, k2⟩
  refine ⟨_, rfl, ?_⟩
  have D5 := kbx D4 k1
  have H5 := kbx H4 k1
  have Be5 := tb Be4 k1
  have M5 := kk k2
  clear k1 k2 Z4 D4 H4
  refine Vv (.tuple #[.agg (qb 32 cc), .bool ok]) (h:=Vv (.agg (qb 32 cc)) (h:=Vv (.bool ok) (h:=zU 32 qm fun u w6 hu0 U6 b_ => ?_)))
  have D6 := kbx D5 b_
  have H6 := kbx H5 b_
  have Be6 := tb Be5 b_
  have gu : Keep (w.heap.size ≤ u) := ⟨by rw [hu0.o]; exact Be5.o.size⟩
  clear b_
  have nu : Keep (d ≠ u) := ⟨zr D6.o U6.o (by decide)⟩
  have nu2 : Keep (g ≠ u) := ⟨by have := H5.o.lt; have := hu0.o; omega⟩
  refine StR (qb 32 cc) U6.o (qd _) (qh _ _ _) (qi _ _) ?_
  have U7 := kk (U6.o.setRow (qb 32 cc))
  have D7 := kk (D6.o.setRow_ne nu.o (qb 32 cc))
  have H7 := kk (H6.o.setRow_ne nu2.o (qb 32 cc))
  have Be7 : Keep (Below w.heap.size w (w6.setRow u (qb 32 cc))) := ⟨qf Be6.o gu.o _⟩
  generalize w6.setRow u (qb 32 cc) = w7 at *
  refine Vv (.bool ok) (h:=WL.nil (hK10 _ _ (wp_seq_k fun K11 hK11 => ?_)))
  have Ud : Keep (Blk w7.drew u 32 (qb 32 cc)) := ⟨U7.o⟩
  have Dd : Keep (Blk w7.drew d 25 (wtA (n : Int) (.slice (some ⟨b, off, none⟩) m cap))) := ⟨D7.o⟩
  have Hd : Keep (Blk w7.drew g 32 hr) := ⟨H7.o⟩
  have Bd : Keep (Below w.heap.size w w7.drew) := ⟨Be7.o.drew⟩
  clear U7 D7 H7 Be7
  rcases hcl : zu n i (lfH x) x.ps with _ | ⟨t_, rs_⟩
  ·have HB_ : Keep (vw n x root = false) := ⟨by unfold vw; rw [hi.o, Int.toNat_natCast, hcl]⟩
   obtain rfl : ok = false := by have h := M5.o; rw [hcl] at h; exact h
   clear hcl M5
   refine wp_region_held_drew (S := fun wx => wx.cell? ⟨d, 0, none⟩ = some (.int .i64 (n : Int)) ∧ wx.rangeAt g 0 hr.toList) (by kernel_rfl) (⟨Dd.o.c 0 rfl, ql Hd.o⟩) (fun hHeld => ?_)
   refine uS 0 ⟨some 29, .move (.tmp 8), 4, _, _, none⟩ (.bool false) rfl (yi (by rintro w ⟨hS1, hS2⟩; clear hS1 hS2; go_simp)) hHeld ?_
   refine uS 1 ⟨some 30, .unOp UnOp.not 4 (.tmp 29), 4, _, _, none⟩ (.bool true) rfl (yi (by rintro w ⟨hS1, hS2⟩; clear hS1 hS2; go_simp)) hHeld ?_
   refine uS 2 ⟨some 31, .move (.tmp 30), 4, _, _, none⟩ (.bool true) rfl (yi (by rintro w ⟨hS1, hS2⟩; clear hS1 hS2; go_simp)) hHeld ?_
   refine uS 3 ⟨some 32, .fieldAddr 25 (.tmp 2) 0, 0, _, _, some (2, false)⟩ undef rfl yn hHeld ?_
   refine uS 5 ⟨some 34, .slice 32 (.tmp 7) none none none, 42, _, _, some (2, false)⟩ undef rfl yn hHeld ?_
   refine uS 8 ⟨some 37, .load 32 (.tmp 3), 32, _, _, some (2, false)⟩ undef rfl yn hHeld ?_
   refine uS 4 ⟨some 33, .load 3 (.tmp 32), 3, _, _, some (2, false)⟩ undef rfl yn hHeld ?_
   refine uS 6 ⟨some 35, .buildSlice 48 1 #[(0, .tmp 34)], 48, _, _, some (2, false)⟩ undef rfl yn hHeld ?_
   refine uS 7 ⟨some 36, .call { callee := .value (.func 24), args := #[.tmp 33, .tmp 35], argTypes := #[3, 48] }, 32, _, _, some (2, false)⟩ undef rfl yn hHeld ?_
   refine uS 9 ⟨some 38, .binOp BinOp.neq 32 (.tmp 36) (.tmp 37) 32, 4, _, _, some (2, false)⟩ undef rfl yn hHeld ?_
   refine uS 10 ⟨some 39, .pick (.tmp 31) (.const (Value.bool true)) (.tmp 38), 4, _, _, none⟩ (.bool true) rfl (yi (by rintro w ⟨hS1, hS2⟩; clear hS1 hS2; go_simp)) hHeld ?_
   refine wpAnyH_done (by kernel_rfl) ?_ _
   refine hK11 _ _ (Ct (h:=wp_seq_k fun K12 hK12 => rgn (Vf (h:=WL.nil (hK12 _ _ (wp_ret ?_))))))
   try simp only [Exit.inBlock, Exit.then]
   go_ret
   refine ⟨?_, Bd.o⟩
   rw [show (ls.all fun x => vw n x root) = false from by
    rw [List.all_eq_false]
    exact ⟨x, List.mem_of_getElem? Hx.o, by rw [HB_.o]; simp⟩]
   rfl
  ·obtain ⟨hok, hct⟩ : ok = true ∧ qb 32 cc = qb 32 (hof t_) := by have h := M5.o; rw [hcl] at h; exact h
   subst hok
   have hlt : t_.length = 32 := RtP.climb_len zR jB _ _ _ _ _ _ _ (jB _) hcl
   have hlc : Keep (hl 32 cc = t_) := ⟨by rw [yW hct, jO hlt]⟩
   obtain ⟨xt, hxt⟩ : ∃ z, Keep (z = kO (RtP.topR le8 n t_)) := ⟨_, ⟨rfl⟩⟩
   obtain ⟨ht_, hte⟩ : ∃ z : Array Value, Keep (z = qb 32 xt.f) := ⟨_, ⟨rfl⟩⟩
   have Hrow : Keep (qb 32 (qy (2 :: (le8 n ++ [hl 32 cc].flatten))) = ht_) := ⟨by rw [hte.o, hxt.o, ← zT, ← yw, hlc.o]; unfold RtP.topR; rw [if_pos (by omega)]; simp⟩
   have HRg : Keep (vw n x root = decide (xt = root)) := ⟨by unfold vw; rw [hi.o, Int.toNat_natCast, hcl, hxt.o]⟩
   clear hcl M5 hct hlt
   by_cases heq : decide (xt = root) = true
   ·have HE : Keep (decide (xt = root) = true) := ⟨heq⟩
    clear heq
    have HG_ : Keep (vw n x root = true) := ⟨by rw [HRg.o, HE.o]⟩
    refine wp_region_held_drew (S := fun wx => wx.cell? ⟨d, 0, none⟩ = some (.int .i64 (n : Int)) ∧ wx.rangeAt g 0 hr.toList) (by kernel_rfl) (⟨Dd.o.c 0 rfl, ql Hd.o⟩) (fun hHeld => ?_)
    refine uS 0 ⟨some 29, .move (.tmp 8), 4, _, _, none⟩ (.bool true) rfl (yi (by rintro w ⟨hS1, hS2⟩; clear hS2; go_simp)) hHeld ?_
    refine uS 1 ⟨some 30, .unOp UnOp.not 4 (.tmp 29), 4, _, _, none⟩ (.bool false) rfl (yi (by rintro w ⟨hS1, hS2⟩; clear hS2; go_simp)) hHeld ?_
    refine uS 2 ⟨some 31, .move (.tmp 30), 4, _, _, none⟩ (.bool false) rfl (yi (by rintro w ⟨hS1, hS2⟩; clear hS2; go_simp)) hHeld ?_
    refine uS 3 ⟨some 32, .fieldAddr 25 (.tmp 2) 0, 0, _, _, some (2, false)⟩ (.pointer (some ⟨d, 0, none⟩)) rfl (yi (by rintro w ⟨hS1, hS2⟩; clear hS2; go_simp)) hHeld ?_
    refine uS 5 ⟨some 34, .slice 32 (.tmp 7) none none none, 42, _, _, some (2, false)⟩ (.slice (some ⟨u, 0, none⟩) 32 32) rfl (yi (by rintro w ⟨hS1, hS2⟩; clear hS2; go_simp)) hHeld ?_
    refine uS 8 ⟨some 37, .load 32 (.tmp 3), 32, _, _, some (2, false)⟩ (.agg hr) rfl (qv (by rfl) (.tmp 3) 32 rfl g 0 rfl hr _ Try.underlying32 rfl (by rw [hre.o]; exact qd _) fun w hS => hS.2) hHeld ?_
    refine uS 4 ⟨some 33, .load 3 (.tmp 32), 3, _, _, some (2, false)⟩ (.int .i64 (n : Int)) rfl (yi (by rintro w ⟨hS1, hS2⟩; clear hS2; go_simp)) hHeld ?_
    refine rd1 6 ⟨some 35, .buildSlice 48 1 #[(0, .tmp 34)], 48, _, _, some (2, false)⟩ rfl fun K hK => ?_
    refine zI 48 1 _ rfl #[(0, .slice (some ⟨u, 0, none⟩) 32 32)] (by simp [Act.eval]) _ _ (kv _ _ _ _) ?_
    have b_ := qg w7.drew (.cells #[.slice (some ⟨u, 0, none⟩) 32 32] 42)
    have Q8 := kk (Blk.new w7.drew 42 #[.slice (some ⟨u, 0, none⟩) 32 32])
    generalize w7.drew.alloc (.cells #[.slice (some ⟨u, 0, none⟩) 32 32] 42) = w8 at *
    obtain ⟨gg, hgg⟩ := nm w7.drew
    rw [← hgg.o] at Q8 ⊢
    have X8 : Keep (RsV w8 (.slice (some ⟨gg, 0, none⟩) 1 1) [.slice (some ⟨u, 0, none⟩) 32 32] [hl 32 cc]) := ⟨RsV.one Q8.o ((xR Ud.o).below b_)⟩
    have D8 := kbx Dd b_
    have H8 := kbx Hd b_
    have Be8 := tb Bd b_
    clear b_ hgg Q8 Ud Dd Hd Bd
    refine hK _ _ ⟨D8.o.c 0 rfl, ql H8.o⟩ fun hH1 => kNx ?_
    clear hK
    refine rd1 7 ⟨some 36, .call { callee := .value (.func 24), args := #[.tmp 33, .tmp 35], argTypes := #[3, 48] }, 32, _, _, some (2, false)⟩ rfl fun K hK => ?_
    refine qz 24 _ _ rfl yO #[.int .i64 (n : Int), .slice (some ⟨gg, 0, none⟩) 1 1] (by simp [Act.eval]) (fun vz wz => vz = .agg ht_ ∧ Below w8.heap.size w8 wz) ?_ ?_
    ·refine (jw n _ _ _ w8 X8.o (by simp) (by simp [jm])).mono ?_
     rintro e wz ⟨rfl, k1⟩
     exact ⟨_, rfl, by rw [Hrow.o], k1⟩
    rintro vz w9 ⟨rfl, k1⟩
    have D9 := kbx D8 k1
    have H9 := kbx H8 k1
    have Be9 := tb Be8 k1
    clear k1 D8 H8 Be8 X8
    refine hK _ _ (⟨D9.o.c 0 rfl, ql H9.o⟩) fun hH2 => kNx ?_
    clear hK
    refine uS 9 ⟨some 38, .binOp BinOp.neq 32 (.tmp 36) (.tmp 37) 32, 4, _, _, some (2, false)⟩ (.bool false) rfl (yi fun w hS => by have hq_ := eqB hte.o hre.o HE.o w; clear hS; go_simp) hH2 ?_
    refine uS 10 ⟨some 39, .pick (.tmp 31) (.const (Value.bool true)) (.tmp 38), 4, _, _, none⟩ (.bool false) rfl (yi (by rintro w ⟨hS1, hS2⟩; clear hS2; go_simp)) hH2 ?_
    refine wpAnyH_done (by kernel_rfl) ?_ _
    refine hK11 _ _ (Cf (h:=wp_skip (hK8 _ _ (rgn (Vv (.int .i64 ((t + 1 : Nat) : Int)) (h:=Vv (.int .i64 ((t + 1 : Nat) : Int)) (h:=?_)))))))
    refine WL.nil ?_
    refine ⟨⟨t + 1, rfl, by omega, D9.o, H9.o, Be9.o, fun i y hi hy => ?_⟩, ?_⟩
    ·by_cases e : i = t
     ·subst e; rw [Hx.o] at hy; injection hy with hy; subst hy; exact HG_.o
     ·exact HI.o i y (by omega) hy
    ·simp only [intOf]; show m - (((t + 1 : Nat) : Int)).toNat < m - ((t : Int)).toNat; omega
   ·have HE : Keep (decide (xt = root) = false) := ⟨by simpa using heq⟩
    clear heq
    have HG_ : Keep (vw n x root = false) := ⟨by rw [HRg.o, HE.o]⟩
    refine wp_region_held_drew (S := fun wx => wx.cell? ⟨d, 0, none⟩ = some (.int .i64 (n : Int)) ∧ wx.rangeAt g 0 hr.toList) (by kernel_rfl) (⟨Dd.o.c 0 rfl, ql Hd.o⟩) (fun hHeld => ?_)
    refine uS 0 ⟨some 29, .move (.tmp 8), 4, _, _, none⟩ (.bool true) rfl (yi (by rintro w ⟨hS1, hS2⟩; clear hS2; go_simp)) hHeld ?_
    refine uS 1 ⟨some 30, .unOp UnOp.not 4 (.tmp 29), 4, _, _, none⟩ (.bool false) rfl (yi (by rintro w ⟨hS1, hS2⟩; clear hS2; go_simp)) hHeld ?_
    refine uS 2 ⟨some 31, .move (.tmp 30), 4, _, _, none⟩ (.bool false) rfl (yi (by rintro w ⟨hS1, hS2⟩; clear hS2; go_simp)) hHeld ?_
    refine uS 3 ⟨some 32, .fieldAddr 25 (.tmp 2) 0, 0, _, _, some (2, false)⟩ (.pointer (some ⟨d, 0, none⟩)) rfl (yi (by rintro w ⟨hS1, hS2⟩; clear hS2; go_simp)) hHeld ?_
    refine uS 5 ⟨some 34, .slice 32 (.tmp 7) none none none, 42, _, _, some (2, false)⟩ (.slice (some ⟨u, 0, none⟩) 32 32) rfl (yi (by rintro w ⟨hS1, hS2⟩; clear hS2; go_simp)) hHeld ?_
    refine uS 8 ⟨some 37, .load 32 (.tmp 3), 32, _, _, some (2, false)⟩ (.agg hr) rfl (qv (by rfl) (.tmp 3) 32 rfl g 0 rfl hr _ Try.underlying32 rfl (by rw [hre.o]; exact qd _) fun w hS => hS.2) hHeld ?_
    refine uS 4 ⟨some 33, .load 3 (.tmp 32), 3, _, _, some (2, false)⟩ (.int .i64 (n : Int)) rfl (yi (by rintro w ⟨hS1, hS2⟩; clear hS2; go_simp)) hHeld ?_
    refine rd1 6 ⟨some 35, .buildSlice 48 1 #[(0, .tmp 34)], 48, _, _, some (2, false)⟩ rfl fun K hK => ?_
    refine zI 48 1 _ rfl #[(0, .slice (some ⟨u, 0, none⟩) 32 32)] (by simp [Act.eval]) _ _ (kv _ _ _ _) ?_
    have b_ := qg w7.drew (.cells #[.slice (some ⟨u, 0, none⟩) 32 32] 42)
    have Q8 := kk (Blk.new w7.drew 42 #[.slice (some ⟨u, 0, none⟩) 32 32])
    generalize w7.drew.alloc (.cells #[.slice (some ⟨u, 0, none⟩) 32 32] 42) = w8 at *
    obtain ⟨gg, hgg⟩ := nm w7.drew
    rw [← hgg.o] at Q8 ⊢
    have X8 : Keep (RsV w8 (.slice (some ⟨gg, 0, none⟩) 1 1) [.slice (some ⟨u, 0, none⟩) 32 32] [hl 32 cc]) := ⟨RsV.one Q8.o ((xR Ud.o).below b_)⟩
    have D8 := kbx Dd b_
    have H8 := kbx Hd b_
    have Be8 := tb Bd b_
    clear b_ hgg Q8 Ud Dd Hd Bd
    refine hK _ _ ⟨D8.o.c 0 rfl, ql H8.o⟩ fun hH1 => kNx ?_
    clear hK
    refine rd1 7 ⟨some 36, .call { callee := .value (.func 24), args := #[.tmp 33, .tmp 35], argTypes := #[3, 48] }, 32, _, _, some (2, false)⟩ rfl fun K hK => ?_
    refine qz 24 _ _ rfl yO #[.int .i64 (n : Int), .slice (some ⟨gg, 0, none⟩) 1 1] (by simp [Act.eval]) (fun vz wz => vz = .agg ht_ ∧ Below w8.heap.size w8 wz) ?_ ?_
    ·refine (jw n _ _ _ w8 X8.o (by simp) (by simp [jm])).mono ?_
     rintro e wz ⟨rfl, k1⟩
     exact ⟨_, rfl, by rw [Hrow.o], k1⟩
    rintro vz w9 ⟨rfl, k1⟩
    have D9 := kbx D8 k1
    have H9 := kbx H8 k1
    have Be9 := tb Be8 k1
    clear k1 D8 H8 Be8 X8
    refine hK _ _ (⟨D9.o.c 0 rfl, ql H9.o⟩) fun hH2 => kNx ?_
    clear hK
    refine uS 9 ⟨some 38, .binOp BinOp.neq 32 (.tmp 36) (.tmp 37) 32, 4, _, _, some (2, false)⟩ (.bool true) rfl (yi fun w hS => by have hq_ := eqB hte.o hre.o HE.o w; clear hS; go_simp) hH2 ?_
    refine uS 10 ⟨some 39, .pick (.tmp 31) (.const (Value.bool true)) (.tmp 38), 4, _, _, none⟩ (.bool true) rfl (yi (by rintro w ⟨hS1, hS2⟩; clear hS2; go_simp)) hH2 ?_
    refine wpAnyH_done (by kernel_rfl) ?_ _
    refine hK11 _ _ (Ct (h:=wp_seq_k fun K13 hK13 => rgn (Vf (h:=WL.nil (hK13 _ _ (wp_ret ?_))))))
    try simp only [Exit.inBlock, Exit.then]
    go_ret
    refine ⟨?_, Be9.o⟩
    rw [show (ls.all fun x => vw n x root) = false from by
     rw [List.all_eq_false]
     exact ⟨x, List.mem_of_getElem? Hx.o, by rw [HG_.o]; simp⟩]
    rfl
 ·have htl' : ¬ (t : Int) < (m : Int) := by omega
  refine wp_seq_k fun K14 hK14 => rgn (Vf (h:=WL.nil (hK14 _ _ (wp_seq_k fun K15 hK15 => Cf (h:=wp_exit (hK4 _ _ (wp_seq_k fun K16 hK16 => rgn (Vt (h:=WL.nil (hK16 _ _ (wp_ret ?_)))))))))))
  try simp only [Exit.inBlock, Exit.then]
  go_ret
  refine ⟨?_, Be2.o⟩
  rw [show (ls.all fun x => vw n x root) = true from by
   rw [List.all_eq_true]
   intro x hx
   obtain ⟨i, hi, e⟩ := List.getElem_of_mem hx
   exact HI.o i x (by rw [hml.o] at hi; omega) (by rw [List.getElem?_eq_getElem hi, e])]
  rfl
theorem yk (v : Value) (n : Int) (ls : List LV) (root : Hs) (w : World) (hL : LsV w.heap.size w v ls) (hF : jT n ls = true) (hn : n < 9223372036854775808) (hSm : SmL ls) : Calls Try.prog 37 #[.agg (wtA n v), .agg (qb 32 root.f)] w fun e w' => e = .returned (.bool (rtB n ls root)) ∧ Below w.heap.size w w' := by
 obtain ⟨la, cap, rfl, hA⟩ := hL.form
 unfold rtB
 unfold jT at hF
 by_cases h0 : n = 0
 ·subst h0
  rw [if_pos rfl]
  cases e : decide (kO (2 :: (le8 0 ++ [])) = root)
  ·exact Yl la _ cap _ _ root _ w ⟨rfl⟩ ⟨rfl⟩ ⟨rfl⟩ ⟨e⟩
  ·exact Yk la _ cap _ _ root _ w ⟨rfl⟩ ⟨rfl⟩ ⟨rfl⟩ ⟨e⟩
 ·rw [if_neg h0] at hF ⊢
  by_cases h1 : n < 0 ∨ ls.length < 1 ∨ 2 < ls.length
  ·rw [if_pos h1] at hF; cases hF
  ·rw [if_neg h1, List.all_eq_true] at hF
   obtain ⟨b, off, rfl, h⟩ := hA (by omega)
   obtain ⟨k, rfl⟩ : ∃ k : Nat, n = (k : Int) := ⟨n.toNat, by omega⟩
   rw [Int.toNat_natCast]
   exact UZ b off _ cap k ls _ root w ⟨rfl⟩ ⟨rfl⟩ (by omega) ⟨by omega⟩ (by omega) hF hSm h
end Go.Proofs.Ytdpcjfafbmhceaa
