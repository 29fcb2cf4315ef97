import Derived.Test.YtjklmkeedhgncaaA13
import Derived.Test.YtjklmkeedhgncaaA15
import Derived.Test.YtjklmkeedhgncaaA16
import Derived.Test.YtjklmkeedhgncaaA17
import Derived.Deep.RegionHeld3
namespace Go.Proofs.Ytjklmkeedhgncaa
open Go.RowKit
set_option linter.unusedSimpArgs false
set_option linter.unusedVariables false
theorem Try.in39 (w : World) (vs : Array Value) : (callFunc 39 vs).run Try.prog w = .ok (.enter 39 vs) w := by kernel_rfl
def wlkR (n : Int) (ls : List LV) : List (List Int) := if n = 0 then [2 :: (le8 0 ++ [])] else ls.flatMap (rwsOf n.toNat)
def RsO (w : World) (v : Value) (us : List Value) (rs : List (List Int)) : Prop := RsV w v us rs ∧ ∀ (j : Nat) (u : Value) (l : List Int), us[j]? = some u → rs[j]? = some l → Own w u l
theorem BkH.rso {B : Nat} {w : World} {x : Nat} {rows : List (List Int)} (h : BkH B w x rows) (h0 : 0 < rows.length) : ∃ vr us, w.cell? ⟨x, 0, none⟩ = some vr ∧ RsO w vr us rows ∧ us.length = rows.length := by
 obtain ⟨vr, cs, h1, h2, h3, h4⟩ := h.ex
 exact ⟨vr, cs, h1.c 0 rfl, ⟨RsV.of_owns h2 (by omega) h3 (fun j u l hu hl => (h4 j u l hu hl).row), h4⟩, h3⟩
def WkP (root : Hs) (n kind : Int) (key : ByteArray) (ls : List LV) (w : World) (e : Ending) (w' : World) : Prop :=
 ∃ (c : CV) (vr : Value), e = .returned (.tuple #[.agg (cvA c), .bool (chkI root n kind key ls), .int .i64 (chkE root n kind key ls), vr]) ∧ RowAt w' c.v c.l ∧ Below w.heap.size w w' ∧
  (chkI root n kind key ls = false → c = ⟨0, ByteArray.empty, .slice none 0 0, []⟩) ∧ (∀ x, chkI root n kind key ls = true → ls = [x] → c = x.c) ∧ (chkE root n kind key ls = 0 → ∃ us, RsO w' vr us (wlkR n ls))
theorem ans_says {n kind : Int} {key : ByteArray} {ls : List LV} (h1 : 1 ≤ ls.length) (h2 : ls.length ≤ 2) : ansB n ls kind key = decide (0 ≤ saysI n ls kind key) ∧ tellB ls kind key = decide (saysI n ls kind key = 1) := by
 match ls, h1, h2 with
 | [x], _, _ =>
  simp only [ansB, saysI, tellB]
  show _ ∧ decide (sgn x kind key = 0) = _
  rcases Int.lt_trichotomy (sgn x kind key) 0 with hs | hs | hs
  ·have e1 : ¬ sgn x kind key = 0 := by omega
   have e2 : ¬ 0 < sgn x kind key := by omega
   by_cases hz : x.num = n - 1
   ·simp [e1, e2, hs, hz]
   ·simp [e1, e2, hs, hz]
  ·simp [hs]
  ·have e1 : ¬ sgn x kind key = 0 := by omega
   have e2 : ¬ sgn x kind key < 0 := by omega
   by_cases hz : x.num = 0
   ·simp [e1, e2, hs, hz]
   ·simp [e1, e2, hs, hz]
 | [x, y], _, _ =>
  simp only [ansB, saysI, tellB]
  by_cases a : sgn x kind key < 0
  ·by_cases b : 0 < sgn y kind key
   ·by_cases c : y.num = x.num + 1
    ·simp [a, b, c]
    ·simp [a, b, c]
   ·simp [a, b]
  ·simp [a]
theorem results_cell_row4 {P : Program} {fn : Func} {p u u' u'' : Tmp} {ty : TypeId} (h : fn.results = #[.cell p ty, .tmp u, .tmp u', .tmp u'']) (tmps : Array Value) (w : World) (g : Nat) (t : TypeId) (cs : Array Value) (fr : Nat × Nat) (d : TypeDesc) (y y' y'' : Value)
  (hp : tmps.getD p undef = .pointer (some ⟨g, 0, none⟩)) (hy : tmps.getD u undef = y) (hy' : tmps.getD u' undef = y') (hy'' : tmps.getD u'' undef = y'') (hg : w.heap[g]? = some (.cells cs t fr))
  (hu : P.underlying ty = some d) (hd : (match d with | .struct _ | .array _ _ => true | _ => false) = true) (hi : (P.info? ty).map (·.size) = some cs.size) :
  (results fn tmps).run P w = .ok (.tuple #[.agg cs, y, y', y'']) w := by
 have hr := run_loadVar_row (P := P) w g t ty cs fr d hg hu hd hi
 simp only [results, h]
 simp only [Array.getD_eq_getD_getElem?] at hp hy hy' hy''
 simp [Result.andThen, asAddr, hp, hy, hy', hy'', hr]
theorem chkE_ok {root : Hs} {n kind : Int} {key : ByteArray} {ls : List LV} (hk : kmay kind = true) (h : takB root n kind key ls = true) : chkE root n kind key ls = 0 ∧ chkI root n kind key ls = tellB ls kind key := by
 have e : chkE root n kind key ls = 0 := by unfold chkE; rw [hk, h]; rfl
 exact ⟨e, by unfold chkI; rw [e]; simp⟩
def SmP (ls : List LV) : Prop := ∀ x ∈ ls, x.c.s.size + x.c.l.length ≤ 140737488350000 ∧ x.ps.length ≤ 1000000000000
theorem BkH.typX {B : Nat} {w : World} {x : Nat} {rows : List (List Int)} (h : BkH B w x rows) : Typ w x 61 := by
 obtain ⟨vr, cs, h1, _⟩ := h.ex
 exact h1.typ
set_option maxRecDepth 8000 in
set_option maxHeartbeats 1000000 in
theorem wk_zero_t (la : Option Addr) (cap : Nat) (kind : Int) (key : ByteArray) (root x0 : Hs) (h0 : Array Value) (w : World) (hkm : kmay kind = true) (h0e : Keep (h0 = bytesA 32 x0.f)) (hx0 : Keep (x0 = shaH (2 :: (le8 0 ++ [])))) (HE : Keep (decide (x0 = root) = true)) : Calls Try.prog 39 #[.agg (bytesA 32 root.f), .int .i64 kind, .string key, .agg (wtA 0 (.slice la 0 cap))] w (WkP root 0 kind key [] w) := by
 have htk : takB root 0 kind key [] = true := by
  unfold takB formB ansB rtB
  rw [if_pos rfl, if_pos rfl, ← hx0.out, HE.out]
  simp
 have hEI := chkE_ok (root := root) (key := key) hkm htk
 have hE := Keep.mk hEI.1
 have hI : Keep (chkI root 0 kind key [] = false) := ⟨by rw [hEI.2]; rfl⟩
 clear hEI htk
 go_enter Try.func39, Try.ntmps39
 refine wp_seq_k fun K1 hK1 => rgn ?_
 refine WL.box (by kernel_rfl) 25 (.tmp 0) rfl (bytesA 32 root.f) rfl ?_
 have Q1 := Keep.mk (Blk.new w 25 (bytesA 32 root.f))
 have b_ := below_new w (.cells (bytesA 32 root.f) 25)
 change WL _ _ _ _ _ (w.alloc (.cells (bytesA 32 root.f) 25))
 generalize w.alloc (.cells (bytesA 32 root.f) 25) = w1 at *
 obtain ⟨q, hq0⟩ : ∃ z, Keep (z = w.heap.size) := ⟨_, ⟨rfl⟩⟩
 rw [← hq0.out] at Q1 ⊢
 have B1 : Keep (Below w.heap.size w w1) := ⟨b_⟩
 have gq : Keep (w.heap.size ≤ q) := ⟨by rw [hq0.out]; exact Nat.le_refl _⟩
 clear b_
 simp only [Act.put, pqA, pqB, pqC]
 refine WL.box (by kernel_rfl) 31 (.tmp 3) rfl (wtA 0 (.slice la 0 cap)) rfl ?_
 have D2 := Keep.mk (Blk.new w1 31 (wtA 0 (.slice la 0 cap)))
 have b_ := below_new w1 (.cells (wtA 0 (.slice la 0 cap)) 31)
 change WL _ _ _ _ _ (w1.alloc (.cells (wtA 0 (.slice la 0 cap)) 31))
 generalize w1.alloc (.cells (wtA 0 (.slice la 0 cap)) 31) = w2 at *
 obtain ⟨d, hd0⟩ : ∃ z, Keep (z = w1.heap.size) := ⟨_, ⟨rfl⟩⟩
 rw [← hd0.out] at D2 ⊢
 have Q2 := Keep.mk (Q1.out.below b_ Q1.out.lt)
 have B2 : Keep (Below w.heap.size w w2) := ⟨B1.out.trans (b_.mono B1.out.size)⟩
 have gd : Keep (w.heap.size ≤ d) := ⟨by rw [hd0.out]; exact B1.out.size⟩
 clear b_
 simp only [Act.put, pqA, pqB, pqC]
 refine WL.new (by kernel_rfl) 40 rfl _ Try.newC ?_
 have R3 := Keep.mk (Blk.new w2 40 #[.int .i64 0, .string ByteArray.empty, .slice none 0 0])
 have b_ := below_new w2 (.cells #[.int .i64 0, .string ByteArray.empty, .slice none 0 0] 40)
 change WL _ _ _ _ _ (w2.alloc (.cells #[.int .i64 0, .string ByteArray.empty, .slice none 0 0] 40))
 generalize w2.alloc (.cells #[.int .i64 0, .string ByteArray.empty, .slice none 0 0] 40) = w3 at *
 obtain ⟨r, hr0⟩ : ∃ z, Keep (z = w2.heap.size) := ⟨_, ⟨rfl⟩⟩
 rw [← hr0.out] at R3 ⊢
 have Q3 := Keep.mk (Q2.out.below b_ Q2.out.lt)
 have D3 := Keep.mk (D2.out.below b_ D2.out.lt)
 have B3 : Keep (Below w.heap.size w w3) := ⟨B2.out.trans (b_.mono B2.out.size)⟩
 have gr : Keep (w.heap.size ≤ r) := ⟨by rw [hr0.out]; exact B2.out.size⟩
 clear b_
 simp only [Act.put, pqA, pqB, pqC]
 refine VbF ?_
 refine VlS (.int .i64 0) ?_
 refine VlS (.slice none 0 0) ?_
 refine WL.nil (hK1 _ _ ?_)
 refine wp_seq_k fun K2 hK2 => rgn ?_
 refine WL.bld (by kernel_rfl) 61 #[] rfl [] (by simp) _ bld_bk ?_
 simp only [Act.put, pqA, pqB, pqC]
 refine WL.box (by kernel_rfl) 61 (.tmp 17) rfl #[.slice none 0 0] rfl ?_
 have K4 := Keep.mk (BkH.new w3)
 have b_ := below_new w3 (.cells #[.slice none 0 0] 61)
 generalize w3.alloc (.cells #[.slice none 0 0] 61) = w4 at *
 obtain ⟨x, hx⟩ : ∃ z, Keep (z = w3.heap.size) := ⟨_, ⟨rfl⟩⟩
 have BK4 : Keep (BkH w.heap.size w4 x []) := ⟨by
  have h := K4.out
  rw [hx.out]
  exact ⟨Nat.le_trans B3.out.size h.ge, by
   obtain ⟨vr, cs, h1, h2, h3, h4⟩ := h.ex
   have hn : cs.length = 0 := by rw [h3]; rfl
   exact ⟨vr, cs, h1, ⟨h2.1, by
    rcases h2.2 with h5 | ⟨g', c', cur, h5, h6, h7⟩
    ·exact .inl h5
    ·exact .inr ⟨g', c', cur, h5, Nat.le_trans B3.out.size h6, h7⟩⟩, h3, h4⟩⟩⟩
 rw [← hx.out]
 have Q4 := Keep.mk (Q3.out.below b_ Q3.out.lt)
 have D4 := Keep.mk (D3.out.below b_ D3.out.lt)
 have R4 := Keep.mk (R3.out.below b_ R3.out.lt)
 have B4 : Keep (Below w.heap.size w w4) := ⟨B3.out.trans (b_.mono B3.out.size)⟩
 clear b_ K4 Q3 D3 R3 hx
 have w0_ : w4.cell? ⟨d, 0, none⟩ = some (.int .i64 0) := D4.out.c 0 rfl
 have w1_ : w4.cell? ⟨d, 1, none⟩ = some (.slice la 0 cap) := D4.out.c 1 rfl
 simp only [Act.put, pqA, pqB, pqC]
 refine VlS (.pointer (some ⟨x, 0, none⟩)) ?_
 refine WL.nil (hK2 _ _ ?_)
 refine wp_seq_k fun K3 hK3 => rgn ?_
 refine VlS (.int .i64 kind) ?_
 refine WL.callF (by kernel_rfl) 31 _ _ rfl Try.in31 #[.int .i64 kind] (by simp [Act.eval]) ?_
 refine (kmay_any kind _).mono ?_
 rintro e w1_z ⟨rfl, hw_⟩
 refine ⟨_, rfl, ?_⟩
 have hw_ := hw_.symm
 subst hw_
 rw [hkm]
 simp only [Act.put, pqA, pqB, pqC]
 refine VbT ?_
 refine WL.nil (hK3 _ _ ?_)
 refine wp_seq_k fun K4 hK4 => ?_
 refine wp_seq_k fun K5 hK5 => rgn ?_
 refine VbT ?_
 refine VbF ?_
 refine WL.nil (hK5 _ _ ?_)
 refine wp_cond_false rfl ?_
 refine wp_skip ?_
 refine hK4 _ _ ?_
 refine wp_seq_k fun K6 hK6 => ?_
 refine wp_seq_k fun K7 hK7 => rgn ?_
 refine VlS (.pointer (some ⟨d, 0, none⟩)) ?_
 refine VlS (.int .i64 0) ?_
 refine VbF ?_
 refine VbF ?_
 refine VlS (.pointer (some ⟨d, 1, none⟩)) ?_
 refine VlS (.slice la 0 cap) ?_
 refine VlS (.int .i64 0) ?_
 refine VbF ?_
 refine VbF ?_
 refine VbF ?_
 refine VlS (.pointer (some ⟨d, 0, none⟩)) ?_
 refine VlS (.int .i64 0) ?_
 refine VbT ?_
 refine VlS (.pointer (some ⟨d, 1, none⟩)) ?_
 refine VlS (.slice la 0 cap) ?_
 refine VlS (.int .i64 0) ?_
 refine VbT ?_
 refine VbF ?_
 refine VbF ?_
 refine WL.nil (hK7 _ _ ?_)
 refine wp_cond_false rfl ?_
 refine wp_skip ?_
 refine hK6 _ _ ?_
 refine wp_seq_k fun K8 hK8 => ?_
 refine wp_seq_k fun K9 hK9 => rgn ?_
 refine VlS (.pointer (some ⟨d, 0, none⟩)) ?_
 refine VlS (.int .i64 0) ?_
 refine VbT ?_
 refine WL.nil (hK9 _ _ ?_)
 refine wp_cond_true rfl ?_
 refine wp_seq_k fun K10 hK10 => ?_
 refine wp_seq_k fun K11 hK11 => ?_
 obtain ⟨hr_, hre⟩ : ∃ z : Array Value, Keep (z = (bytesA 32 root.f)) := ⟨_, ⟨rfl⟩⟩
 obtain ⟨hz_, hze⟩ : ∃ z : Array Value, Keep (z = (bytesA 32 fun _ => 0)) := ⟨_, ⟨rfl⟩⟩
 have bq := (Below.refl w4.heap.size w4).drew
 have Qd : Keep (Blk w4.drew q 25 hr_) := ⟨by rw [hre.out]; exact Q4.out⟩
 have Rd4 : Keep (Blk w4.drew r 40 #[.int .i64 0, .string ByteArray.empty, .slice none 0 0]) := ⟨R4.out⟩
 have BKd4 := Keep.mk (BK4.out.below bq)
 have Bd4 : Keep (Below w.heap.size w w4.drew) := ⟨B4.out.drew⟩
 clear w0_ w1_ Q4 R4 BK4 B4 D4 bq
 have HTP : Keep (Calls Try.prog 52 #[.pointer (some ⟨x, 0, none⟩), .int .i64 ((0 : Nat) : Int), .agg hz_] w4.drew fun e w' => e = .returned (.agg h0) ∧ BkH w.heap.size w' x [2 :: (le8 0 ++ [])] ∧ Grown w4.drew w' (BkS w.heap.size w4.drew)) := ⟨by
  have h := top_any w.heap.size x 0 (fun _ => 0) [] w4.drew BKd4.out (by omega) (by simp) Bd4.out.size
  rw [hze.out, h0e.out, hx0.out, ← encH_arr, ← shaH_arr]
  exact h⟩
 refine wp_region_held_drew (S := fun wx => wx.rangeAt q 0 hr_.toList) (by kernel_rfl) (blk_range Qd.out) (fun hHeld => ?_)
 refine TkC (i := 0) (oi := ⟨some 47, Op.move (Operand.tmp 12), 58, _, _, none⟩) (v := .pointer (some ⟨x, 0, none⟩)) rfl hHeld ?_
 refine tkS (i := 3) (oi := ⟨some 50, Op.load 25 (Operand.tmp 4), 25, _, _, none⟩) (v := .agg hr_) rfl (yieldsIf_ld (by rfl) (Operand.tmp 4) 25 rfl q 0 rfl hr_ _ Try.underlying25 rfl (by rw [hre.out]; exact Try.size25B _) fun w hS => hS) hHeld ?_
 refine wpAnyH_ready (rs := [1]) (by kernel_rfl) (by simp) ?_
 refine AllReadyH.cons (o := ⟨some 48, Op.build 25 #[], 25, _, _, none⟩) rfl (fun K hK => ?_) AllReadyH.nil
 rw [if_pos (by rfl)]
 refine wp_bldG 25 #[] rfl hz_ (by rw [hze.out]; simpa using bld_hz) ?_
 refine hK _ _ (blk_range Qd.out) fun hH_ => ?_
 clear hK
 simp only [Act.put, pqA, pqB, pqC]
 refine wpAnyH_ready (rs := [2]) (by kernel_rfl) (by simp) ?_
 refine AllReadyH.cons (o := ⟨some 49, Op.call { callee := Callee.value (Operand.func 52), args := #[Operand.tmp 47, Operand.const (Value.int IntKind.i64 0), Operand.tmp 48], argTypes := #[58, 3, 25] }, 25, _, _, none⟩) rfl (fun K hK => ?_) AllReadyH.nil
 rw [if_pos (by rfl)]
 refine wp_callF 52 _ _ rfl Try.in52 #[.pointer (some ⟨x, 0, none⟩), .int .i64 ((0 : Nat) : Int), .agg hz_] (by simp [Act.eval]) (fun vz wz => vz = .agg h0 ∧ BkH w.heap.size wz x [2 :: (le8 0 ++ [])] ∧ Grown w4.drew wz (BkS w.heap.size w4.drew)) ?_ ?_
 ·refine (HTP.out).mono ?_
  rintro e wz ⟨rfl, k1, k2⟩
  exact ⟨_, rfl, rfl, k1, k2⟩
 rintro vz w5 ⟨rfl, k1, k2⟩
 have BK5 := Keep.mk k1
 have B5 : Keep (Below w.heap.size w w5) := ⟨Bd4.out.trans (k2.bkBelow Bd4.out.size)⟩
 have Q5 := Keep.mk (Qd.out.bk k2 (by decide) (by decide))
 have R5 := Keep.mk (Rd4.out.bk k2 (by decide) (by decide))
 clear k1 k2 Qd Rd4 BKd4 Bd4
 refine hK _ _ (blk_range Q5.out) fun hH_ => ?_
 clear hK
 simp only [Act.put, pqA, pqB, pqC]
 refine tkS (i := 4) (oi := ⟨some 51, Op.binOp BinOp.neq 25 (Operand.tmp 49) (Operand.tmp 50) 25, 4, _, _, none⟩) (v := .bool false) rfl (Or.inl ⟨by rfl, fun w hS => by have hq_ := eqB h0e.out hre.out HE.out w; clear hS; go_simp⟩) hH_ ?_
 refine wpAnyH_done (by kernel_rfl) ?_ _
 refine hK11 _ _ ?_
 refine wp_cond_false rfl ?_
 refine wp_skip ?_
 refine hK10 _ _ ?_
 refine wp_seq_k fun K12 hK12 => ?_
 have BKd := Keep.mk (BK5.out.below (Below.refl w5.heap.size w5).drew)
 obtain ⟨vr, us0, cvr, -, -⟩ := BKd.out.rsv (by simp)
 have Rd : Keep (Blk w5.drew r 40 #[.int .i64 0, .string ByteArray.empty, .slice none 0 0]) := ⟨R5.out⟩
 have Bd : Keep (Below w.heap.size w w5.drew) := ⟨B5.out.drew⟩
 have hxr : Keep (x ≠ r) := ⟨fun e => absurd (BKd.out.typX.one (show Typ w5.drew x 40 from e ▸ Rd.out.typ)) (by decide)⟩
 refine wp_region_held_drew (S := fun wx => wx.cell? ⟨x, 0, none⟩ = some vr) (by kernel_rfl) (cvr) (fun hHeld => ?_)
 refine TkG (i := 1) (oi := ⟨some 58, Op.move (Operand.tmp 12), 58, _, _, none⟩) (v := .pointer (some ⟨x, 0, none⟩)) rfl hHeld ?_
 refine TkG (i := 2) (oi := ⟨some 59, Op.nilCheck (Operand.tmp 58), 0, _, _, none⟩) (v := .pointer (some ⟨x, 0, none⟩)) rfl hHeld ?_
 refine TkG (i := 3) (oi := ⟨some 60, Op.fieldAddr 61 (Operand.tmp 59) 0, 0, _, _, none⟩) (v := .pointer (some ⟨x, 0, none⟩)) rfl hHeld ?_
 refine TkG (i := 4) (oi := ⟨some 61, Op.load 59 (Operand.tmp 60), 59, _, _, none⟩) (v := vr) rfl hHeld ?_
 refine wpAnyH_ready (rs := [0]) (by kernel_rfl) (by simp) ?_
 refine AllReadyH.cons (o := ⟨some 57, Op.build 40 #[], 40, _, _, none⟩) rfl (fun K hK => ?_) AllReadyH.nil
 rw [if_pos (by rfl)]
 refine wp_bldG 40 #[] rfl #[.int .i64 0, .string ByteArray.empty, .slice none 0 0] (by simpa using bldC) ?_
 refine hK _ _ cvr fun hH_ => ?_
 clear hK
 simp only [Act.put, pqA, pqB, pqC]
 refine wpAnyH_ready (rs := [5]) (by kernel_rfl) (by simp) ?_
 refine AllReadyH.cons (o := ⟨none, Op.store 40 (Operand.tmp 8) (Operand.tmp 57), 0, _, _, none⟩) rfl (fun K hK => ?_) AllReadyH.nil
 rw [if_pos (by rfl)]
 refine wp_store_row 40 (.tmp 8) (.tmp 57) rfl r #[.int .i64 0, .string ByteArray.empty, .slice none 0 0] rfl rfl 40 #[.int .i64 0, .string ByteArray.empty, .slice none 0 0] Rd.out (Try.sizeC _ _ _) rfl (by simp [Value.oneCell']) ?_
 have R9 := Keep.mk (Rd.out.setRow #[.int .i64 0, .string ByteArray.empty, .slice none 0 0])
 have g_ : Grown w5.drew (w5.drew.setRow r #[.int .i64 0, .string ByteArray.empty, .slice none 0 0]) (fun k => k = r) := Grown.setRow _ r #[.int .i64 0, .string ByteArray.empty, .slice none 0 0] fun _ => rfl
 have cvr9 := g_.cell cvr hxr.out
 have BK9 := Keep.mk (BKd.out.setRow Rd.out #[.int .i64 0, .string ByteArray.empty, .slice none 0 0] (by decide) (by decide) (by decide))
 have B9 : Keep (Below w.heap.size w (w5.drew.setRow r #[.int .i64 0, .string ByteArray.empty, .slice none 0 0])) := ⟨below_setRow Bd.out gr.out _⟩
 generalize w5.drew.setRow r #[.int .i64 0, .string ByteArray.empty, .slice none 0 0] = w9 at *
 clear g_
 have RS9 : Keep (∃ us, RsO w9 vr us _) := ⟨by
  obtain ⟨vr', us', c', h1, _⟩ := BK9.out.rso (by simp)
  obtain rfl : vr' = vr := Option.some.inj (c'.symm.trans cvr9)
  exact ⟨us', h1⟩⟩
 refine hK _ _ cvr9 fun hH_ => ?_
 clear hK
 simp only [Act.put, pqA, pqB, pqC]
 refine TkG (i := 6) (oi := ⟨some 9, Op.assign (Operand.const (Value.bool false)), 4, _, _, none⟩) (v := .bool false) rfl hH_ ?_
 refine TkG (i := 7) (oi := ⟨some 10, Op.assign (Operand.const (Value.int IntKind.i64 0)), 26, _, _, none⟩) (v := .int .i64 0) rfl hH_ ?_
 refine TkG (i := 8) (oi := ⟨some 11, Op.assign (Operand.tmp 61), 59, _, _, none⟩) (v := vr) rfl hH_ ?_
 refine wpAnyH_done (by kernel_rfl) ?_ _
 refine hK12 _ _ ?_
 refine wp_ret ?_
 try simp only [Exit.inBlock, Exit.then]
 refine bodyPost_ret (v := .tuple #[.agg #[.int .i64 0, .string ByteArray.empty, .slice none 0 0], .bool false, .int .i64 0, vr]) (results_cell_row4 Try.results39 _ _ r 40 _ (0, 0) _ _ _ _ rfl rfl rfl rfl R9.out Try.underlying40 rfl (Try.sizeC _ _ _)) rfl ⟨⟨0, ByteArray.empty, .slice none 0 0, []⟩, vr, ?_, .inl ⟨rfl, rfl⟩, B9.out, fun _ => rfl, fun y h => (by rw [hI.out] at h; cases h), fun _ => RS9.out⟩
 rw [hE.out, hI.out] <;> rfl
theorem says_vals {n kind : Int} {key : ByteArray} {ls : List LV} : saysI n ls kind key = -1 ∨ saysI n ls kind key = 0 ∨ saysI n ls kind key = 1 := by
 unfold saysI
 split
 ·split
  ·exact .inr (.inr rfl)
  ·split
   ·exact .inr (.inl rfl)
   ·exact .inl rfl
 ·split
  ·exact .inr (.inl rfl)
  ·exact .inl rfl
 ·exact .inl rfl
theorem tak_bad {root : Hs} {n : Nat} {kind : Int} {key : ByteArray} {ls : List LV} {m : Nat} {y : LV} (hn : 0 < n) (hml : ls.length = m) (h1 : 1 ≤ m) (h2 : m ≤ 2) (hy : y ∈ ls) (h : (okL (n : Int) y && rgtB n y root) = false) : takB root (n : Int) kind key ls = false := by
 unfold takB formB rtB
 rw [if_neg (by omega), if_neg (by omega), if_neg (by omega), Int.toNat_natCast]
 rw [Bool.and_eq_false_iff] at h
 rcases h with h | h
 ·rw [show ls.all (okL (n : Int)) = false from by rw [List.all_eq_false]; exact ⟨y, hy, by rw [h]; simp⟩]; rfl
 ·rw [show (ls.all fun x => rgtB n x root) = false from by rw [List.all_eq_false]; exact ⟨y, hy, by rw [h]; simp⟩]; simp
theorem tak_says {root : Hs} {n : Nat} {kind : Int} {key : ByteArray} {ls : List LV} {m : Nat} (hn : 0 < n) (hml : ls.length = m) (h1 : 1 ≤ m) (h2 : m ≤ 2) (h : ∀ y ∈ ls, (okL (n : Int) y && rgtB n y root) = true) : takB root (n : Int) kind key ls = decide (0 ≤ saysI (n : Int) ls kind key) := by
 rw [← (ans_says (n := (n : Int)) (kind := kind) (key := key) (ls := ls) (by omega) (by omega)).1]
 unfold takB formB rtB
 rw [if_neg (by omega), if_neg (by omega), if_neg (by omega), Int.toNat_natCast]
 have e1 : ls.all (okL (n : Int)) = true := by rw [List.all_eq_true]; intro y hy; have := h y hy; simp at this; exact this.1
 have e2 : (ls.all fun x => rgtB n x root) = true := by rw [List.all_eq_true]; intro y hy; have := h y hy; simp at this; exact this.2
 rw [e1, e2]
 simp
theorem climb_rows {k n i : Nat} {h : List Int} : ∀ (k n i : Nat) (h : List Int) (p : List (List Int)) (t : List Int) (rs : List (List Int)), RtP.climb shaL k n i h p = some (t, rs) → rs.length ≤ p.length
 | 0, n, i, h, p, t, rs, hc => by simp [RtP.climb] at hc
 | k + 1, n, i, h, p, t, rs, hc => by
  unfold RtP.climb at hc
  split at hc
  ·split at hc
   ·injection hc with hc
    injection hc with _ h2
    rw [← h2]; simp
   ·cases hc
  ·split at hc
   ·cases hc
   ·split at hc
    ·split at hc
     ·rename_i x rs' e
      injection hc with hc
      injection hc with _ h2
      have := climb_rows (k := 0) (n := 0) (i := 0) (h := []) _ _ _ _ _ _ _ e
      rw [← h2]; simp; omega
     ·cases hc
    ·split at hc
     ·rename_i x rs' e
      injection hc with hc
      injection hc with _ h2
      have := climb_rows (k := 0) (n := 0) (i := 0) (h := []) _ _ _ _ _ _ _ e
      rw [← h2]; simp; omega
     ·cases hc
theorem rwsOf_len (n : Nat) (x : LV) : (rwsOf n x).length ≤ x.ps.length + 2 := by
 unfold rwsOf
 split
 ·rename_i t rt e
  have := climb_rows (k := 0) (n := 0) (i := 0) (h := []) _ _ _ _ _ _ _ e
  simp at this ⊢
  omega
 ·simp
theorem rows_len {ls : List LV} {m n : Nat} (hml : ls.length = m) (hm2 : m ≤ 2) (h : SmP ls) (t : Nat) (y : LV) (hy : y ∈ ls) : ((ls.take t).flatMap (rwsOf n)).length + y.ps.length + 3 ≤ 4398046511104 := by
 have hb : ∀ l : List LV, (∀ x ∈ l, x.ps.length ≤ 1000000000000) → (l.flatMap (rwsOf n)).length ≤ l.length * 1000000000002 := by
  intro l
  induction l with
  | nil => intro _; simp
  | cons a r ih =>
   intro hl
   have h1 := ih fun x hx => hl x (by simp [hx])
   have h2 := rwsOf_len n a
   have h3 := hl a (by simp)
   rw [List.flatMap_cons, List.length_append, List.length_cons, Nat.add_mul]
   omega
 have h1 := hb (ls.take t) fun x hx => (h x (List.mem_of_mem_take hx)).2
 have h2 := (h y hy).2
 have h3 : (ls.take t).length ≤ 2 := by rw [List.length_take]; omega
 have h4 : (ls.take t).length * 1000000000002 ≤ 2 * 1000000000002 := Nat.mul_le_mul_right _ h3
 omega
theorem rows_pos {ls : List LV} {m n : Nat} {root : Hs} (hml : ls.length = m) (hm1 : 1 ≤ m) (h : ∀ y ∈ ls, (okL (n : Int) y && rgtB n y root) = true) : 0 < (ls.flatMap (rwsOf n)).length := by
 match ls, hml, h with
 | [], e, _ => simp at e; omega
 | y :: r, _, h =>
  have h1 := h y (by simp)
  simp at h1
  have h2 := h1.2
  unfold rgtB at h2
  rw [List.flatMap_cons, List.length_append]
  have : 0 < (rwsOf n y).length := by
   unfold rwsOf
   split
   ·simp
   ·rename_i e; rw [e] at h2; cases h2
  omega

end Go.Proofs.Ytjklmkeedhgncaa
