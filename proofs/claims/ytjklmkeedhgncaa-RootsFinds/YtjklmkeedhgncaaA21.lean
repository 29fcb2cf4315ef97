import Derived.Test.YtjklmkeedhgncaaA19
import Derived.Test.YtjklmkeedhgncaaA10
import Derived.Test.YtjklmkeedhgncaaA06
import Derived.Test.YtjklmkeedhgncaaA20
import Derived.Test.YtjklmkeedhgncaaA09
import Derived.Test.YtjklmkeedhgncaaRows
import Derived.Test.YtjklmkeedhgncaaA04
import Derived.Deep.RegionHeld3
import Derived.ProofKit
import Derived.OpenShut
import Derived.ShutString
import Derived.ChangeOld
import Derived.Below
import Derived.SizedLaws
import Derived.Deep.Slices
import Derived.Deep.Strs
namespace Go.Proofs.Ytjklmkeedhgncaa
open Go.RowKit
set_option linter.unusedSimpArgs false
set_option linter.unusedVariables false
theorem Try.in34 (w : World) (vs : Array Value) : (callFunc 34 vs).run Try.prog w = .ok (.enter 34 vs) w := by kernel_rfl
set_option maxRecDepth 8000 in
theorem smh_len (pa qa : Option Addr) (n pc m qc : Nat) (ps qs : List Hs) (w : World) (hd : Keep (decide (ps = qs) = false)) (hne : ¬ n = m) : Calls Try.prog 34 #[.slice pa n pc, .slice qa m qc] w fun e w' => e = .returned (.bool (decide (ps = qs))) ∧ Below w.heap.size w w' := by
 have hne' : ((n : Int) == (m : Int)) = false := by simp; omega
 have hne2 : ¬ (n : Int) = (m : Int) := by omega
 go_enter Try.func34, Try.ntmps34
 refine wp_seq_k fun K1 hK1 => rgn ?_
 refine VbF ?_
 refine WL.nil (hK1 _ _ ?_)
 refine wp_seq_k fun K2 hK2 => ?_
 refine wp_seq_k fun K3 hK3 => rgn ?_
 refine VlS (.slice pa n pc) ?_
 refine VlS (.int .i64 (n : Int)) ?_
 refine VlS (.slice qa m qc) ?_
 refine VlS (.int .i64 (m : Int)) ?_
 refine VbT ?_
 refine WL.nil (hK3 _ _ ?_)
 refine wp_cond_true rfl ?_
 refine wp_seq_k fun K4 hK4 => rgn ?_
 refine VbF ?_
 refine WL.nil (hK4 _ _ ?_)
 refine wp_ret ?_
 go_ret
 rw [hd.out]
 exact ⟨rfl, Below.refl _ _⟩
set_option maxRecDepth 8000 in
set_option maxHeartbeats 1000000 in
theorem smh_eq (pa qa : Option Addr) (n pc qc : Nat) (ps qs : List Hs) (w : World) (hn : Keep (ps.length = n)) (hm : Keep (qs.length = n)) (HN : Keep (n ≤ 4398046511104)) (HP : Keep (0 < n → ∃ b o, pa = some ⟨b, o, none⟩ ∧ b < w.heap.size ∧ w.rangeAt b o (flatH ps))) (HQ : Keep (0 < n → ∃ b o, qa = some ⟨b, o, none⟩ ∧ b < w.heap.size ∧ w.rangeAt b o (flatH qs))) : Calls Try.prog 34 #[.slice pa n pc, .slice qa n qc] w fun e w' => e = .returned (.bool (decide (ps = qs))) ∧ Below w.heap.size w w' := by
 go_enter Try.func34, Try.ntmps34
 refine wp_seq_k fun K1 hK1 => rgn ?_
 refine VbF ?_
 refine WL.nil (hK1 _ _ ?_)
 refine wp_seq_k fun K2 hK2 => ?_
 refine wp_seq_k fun K3 hK3 => rgn ?_
 refine VlS (.slice pa n pc) ?_
 refine VlS (.int .i64 (n : Int)) ?_
 refine VlS (.slice qa n qc) ?_
 refine VlS (.int .i64 (n : Int)) ?_
 refine VbF ?_
 refine WL.nil (hK3 _ _ ?_)
 refine wp_cond_false rfl ?_
 refine wp_skip ?_
 refine hK2 _ _ ?_
 refine wp_seq_k fun K4 hK4 => ?_
 refine wp_seq_k fun K5 hK5 => rgn ?_
 refine VlS (.int .i64 0) ?_
 refine WL.nil (hK5 _ _ ?_)
 refine wp_block ?_
 refine wp_loop (fun ac wr => ∃ (t : Nat) (f : Nat → Value), ac = { tmps := #[.slice pa n pc, .slice qa n qc, undef, undef, f 4, .int .i64 (t : Int), .slice pa n pc, .int .i64 (n : Int), .slice qa n qc, .int .i64 (n : Int), .bool false, f 11, f 12, f 13, f 14, f 15, f 16, f 17, f 18, f 19, f 20, f 21, f 22, f 23, f 24, f 25], defers := [] } ∧ t ≤ n ∧ Below w.heap.size w wr ∧ (∀ i, i < t → ps[i]? = qs[i]?)) (fun a _ => n - (intOf (a.tmps.getD 5 undef)).toNat) ⟨0, fun zz => [.slice pa n pc, .slice qa n qc, undef, undef, .bool false, .int .i64 0, .slice pa n pc, .int .i64 (n : Int), .slice qa n qc, .int .i64 (n : Int), .bool false, undef, undef, undef, undef, undef, undef, undef, undef, undef, undef, undef, undef, undef, undef, undef].getD zz undef, rfl, by omega, Below.refl _ _, fun i hi => by omega⟩ ?_
 rintro ac wr ⟨t, f, rfl, ht, hb, hI⟩
 have B1 := Keep.mk hb
 have HI := Keep.mk hI
 clear hb hI
 by_cases htl : t < n
 ·have htl' : (t : Int) < (n : Int) := by omega
  obtain ⟨b, o, hpa, hb1, hr1⟩ := HP.out (by omega)
  obtain ⟨d, o2, hqa, hb2, hr2⟩ := HQ.out (by omega)
  subst hpa hqa
  obtain ⟨x, Hx⟩ : ∃ z, Keep (ps[t]? = some z) := ⟨ps[t]'(by rw [hn.out]; exact htl), ⟨List.getElem?_eq_getElem _⟩⟩
  obtain ⟨y, Hy⟩ : ∃ z, Keep (qs[t]? = some z) := ⟨qs[t]'(by rw [hm.out]; exact htl), ⟨List.getElem?_eq_getElem _⟩⟩
  obtain ⟨h1, h1e⟩ : ∃ z : Array Value, Keep (z = bytesA 32 x.f) := ⟨_, ⟨rfl⟩⟩
  obtain ⟨h2, h2e⟩ : ∃ z : Array Value, Keep (z = bytesA 32 y.f) := ⟨_, ⟨rfl⟩⟩
  have S0 : Keep (wr.drew.rangeAt b (o + t * 32) h1.toList ∧ wr.drew.rangeAt d (o2 + t * 32) h2.toList) := ⟨by
   have hx := (List.getElem?_eq_some_iff.mp Hx.out)
   have hy := (List.getElem?_eq_some_iff.mp Hy.out)
   obtain ⟨lx, ex⟩ := hx
   obtain ⟨ly, ey⟩ := hy
   constructor
   ·have h := rangeAt_below (rangeAt_elem hr1 t lx) (B1.out.drew) hb1
    rw [ex] at h
    rw [h1e.out, ← encH_arr]
    simpa using h
   ·have h := rangeAt_below (rangeAt_elem hr2 t ly) (B1.out.drew) hb2
    rw [ey] at h
    rw [h2e.out, ← encH_arr]
    simpa using h⟩
  have Bd : Keep (Below w.heap.size w wr.drew) := ⟨B1.out.drew⟩
  cases hxy : decide (x = y)
  ·have HE := Keep.mk hxy
   clear hxy
   have hw9 : IntKind.i64.wrap ((t : Int) + 1) = ((t + 1 : Nat) : Int) := by rw [IntKind.wrap_i64]; have := HN.out; omega
   refine wp_seq_k fun K6 hK6 => ?_
   refine wp_seq_k fun K7 hK7 => rgn ?_
   refine VlS (.int .i64 (t : Int)) ?_
   refine VlS (.slice (some ⟨b, o, none⟩) n pc) ?_
   refine VlS (.int .i64 (n : Int)) ?_
   refine VbT ?_
   refine WL.nil (hK7 _ _ ?_)
   refine wp_cond_true rfl ?_
   refine wp_skip ?_
   refine hK6 _ _ ?_
   refine wp_seq_k fun K8 hK8 => ?_
   refine wp_block ?_
   refine wp_seq_k fun K9 hK9 => ?_
   refine wp_region_held_drew (S := fun wx => wx.rangeAt b (o + t * 32) h1.toList ∧ wx.rangeAt d (o2 + t * 32) h2.toList) (by kernel_rfl) (S0.out) (fun hHeld => ?_)
   refine TkC (i := 0) (oi := ⟨some 17, Op.move (Operand.tmp 0), 67, _, _, none⟩) (v := .slice (some ⟨b, o, none⟩) n pc) rfl hHeld ?_
   refine TkC (i := 1) (oi := ⟨some 18, Op.move (Operand.tmp 5), 3, _, _, none⟩) (v := .int .i64 (t : Int)) rfl hHeld ?_
   refine TkC (i := 4) (oi := ⟨some 21, Op.move (Operand.tmp 1), 67, _, _, none⟩) (v := .slice (some ⟨d, o2, none⟩) n qc) rfl hHeld ?_
   refine TkC (i := 5) (oi := ⟨some 22, Op.move (Operand.tmp 5), 3, _, _, none⟩) (v := .int .i64 (t : Int)) rfl hHeld ?_
   refine TkC (i := 2) (oi := ⟨some 19, Op.indexAddr 67 (Operand.tmp 17) (Operand.tmp 18), 0, _, _, none⟩) (v := .pointer (some ⟨b, o + t * 32, none⟩)) rfl hHeld ?_
   refine TkC (i := 6) (oi := ⟨some 23, Op.indexAddr 67 (Operand.tmp 21) (Operand.tmp 22), 0, _, _, none⟩) (v := .pointer (some ⟨d, o2 + t * 32, none⟩)) rfl hHeld ?_
   refine tkS (i := 3) (oi := ⟨some 20, Op.load 25 (Operand.tmp 19), 25, _, _, none⟩) (v := .agg h1) rfl (yieldsIf_ld (by rfl) (Operand.tmp 19) 25 rfl b (o + t * 32) rfl h1 _ Try.underlying25 rfl (by rw [h1e.out]; exact Try.size25B _) fun w hS => hS.1) hHeld ?_
   refine tkS (i := 7) (oi := ⟨some 24, Op.load 25 (Operand.tmp 23), 25, _, _, none⟩) (v := .agg h2) rfl (yieldsIf_ld (by rfl) (Operand.tmp 23) 25 rfl d (o2 + t * 32) rfl h2 _ Try.underlying25 rfl (by rw [h2e.out]; exact Try.size25B _) fun w hS => hS.2) hHeld ?_
   refine tkS (i := 8) (oi := ⟨some 25, Op.binOp BinOp.neq 25 (Operand.tmp 20) (Operand.tmp 24) 25, 4, _, _, none⟩) (v := .bool true) rfl (Or.inl ⟨by rfl, fun w hS => by have hq_ := eqB h1e.out h2e.out HE.out w; clear hS; go_simp⟩) hHeld ?_
   refine wpAnyH_done (by kernel_rfl) ?_ _
   refine hK9 _ _ ?_
   refine wp_cond_true rfl ?_
   refine wp_seq_k fun K10 hK10 => rgn ?_
   refine VbF ?_
   refine WL.nil (hK10 _ _ ?_)
   refine wp_ret ?_
   go_ret
   have hf : decide (ps = qs) = false := decide_eq_false fun e => of_decide_eq_false HE.out (Option.some.inj (Hx.out.symm.trans ((congrArg (·[t]?) e).trans Hy.out)))
   rw [hf]
   exact ⟨rfl, Bd.out⟩
  ·have HE := Keep.mk hxy
   clear hxy
   have hw9 : IntKind.i64.wrap ((t : Int) + 1) = ((t + 1 : Nat) : Int) := by rw [IntKind.wrap_i64]; have := HN.out; omega
   refine wp_seq_k fun K11 hK11 => ?_
   refine wp_seq_k fun K12 hK12 => rgn ?_
   refine VlS (.int .i64 (t : Int)) ?_
   refine VlS (.slice (some ⟨b, o, none⟩) n pc) ?_
   refine VlS (.int .i64 (n : Int)) ?_
   refine VbT ?_
   refine WL.nil (hK12 _ _ ?_)
   refine wp_cond_true rfl ?_
   refine wp_skip ?_
   refine hK11 _ _ ?_
   refine wp_seq_k fun K13 hK13 => ?_
   refine wp_block ?_
   refine wp_seq_k fun K14 hK14 => ?_
   refine wp_region_held_drew (S := fun wx => wx.rangeAt b (o + t * 32) h1.toList ∧ wx.rangeAt d (o2 + t * 32) h2.toList) (by kernel_rfl) (S0.out) (fun hHeld => ?_)
   refine TkC (i := 0) (oi := ⟨some 17, Op.move (Operand.tmp 0), 67, _, _, none⟩) (v := .slice (some ⟨b, o, none⟩) n pc) rfl hHeld ?_
   refine TkC (i := 1) (oi := ⟨some 18, Op.move (Operand.tmp 5), 3, _, _, none⟩) (v := .int .i64 (t : Int)) rfl hHeld ?_
   refine TkC (i := 4) (oi := ⟨some 21, Op.move (Operand.tmp 1), 67, _, _, none⟩) (v := .slice (some ⟨d, o2, none⟩) n qc) rfl hHeld ?_
   refine TkC (i := 5) (oi := ⟨some 22, Op.move (Operand.tmp 5), 3, _, _, none⟩) (v := .int .i64 (t : Int)) rfl hHeld ?_
   refine TkC (i := 2) (oi := ⟨some 19, Op.indexAddr 67 (Operand.tmp 17) (Operand.tmp 18), 0, _, _, none⟩) (v := .pointer (some ⟨b, o + t * 32, none⟩)) rfl hHeld ?_
   refine TkC (i := 6) (oi := ⟨some 23, Op.indexAddr 67 (Operand.tmp 21) (Operand.tmp 22), 0, _, _, none⟩) (v := .pointer (some ⟨d, o2 + t * 32, none⟩)) rfl hHeld ?_
   refine tkS (i := 3) (oi := ⟨some 20, Op.load 25 (Operand.tmp 19), 25, _, _, none⟩) (v := .agg h1) rfl (yieldsIf_ld (by rfl) (Operand.tmp 19) 25 rfl b (o + t * 32) rfl h1 _ Try.underlying25 rfl (by rw [h1e.out]; exact Try.size25B _) fun w hS => hS.1) hHeld ?_
   refine tkS (i := 7) (oi := ⟨some 24, Op.load 25 (Operand.tmp 23), 25, _, _, none⟩) (v := .agg h2) rfl (yieldsIf_ld (by rfl) (Operand.tmp 23) 25 rfl d (o2 + t * 32) rfl h2 _ Try.underlying25 rfl (by rw [h2e.out]; exact Try.size25B _) fun w hS => hS.2) hHeld ?_
   refine tkS (i := 8) (oi := ⟨some 25, Op.binOp BinOp.neq 25 (Operand.tmp 20) (Operand.tmp 24) 25, 4, _, _, none⟩) (v := .bool false) rfl (Or.inl ⟨by rfl, fun w hS => by have hq_ := eqB h1e.out h2e.out HE.out w; clear hS; go_simp⟩) hHeld ?_
   refine wpAnyH_done (by kernel_rfl) ?_ _
   refine hK14 _ _ ?_
   refine wp_cond_false rfl ?_
   refine wp_skip ?_
   refine hK13 _ _ ?_
   refine rgn ?_
   refine VlS (.int .i64 (t : Int)) ?_
   refine VlS (.int .i64 ((t + 1 : Nat) : Int)) ?_
   refine VlS (.int .i64 ((t + 1 : Nat) : Int)) ?_
   refine WL.nil ?_
   refine ⟨⟨t + 1, fun zz => [.slice (some ⟨b, o, none⟩) n pc, .slice (some ⟨d, o2, none⟩) n qc, undef, undef, f 4, .int .i64 ((t + 1 : Nat) : Int), .slice (some ⟨b, o, none⟩) n pc, .int .i64 (n : Int), .slice (some ⟨d, o2, none⟩) n qc, .int .i64 (n : Int), .bool false, .int .i64 (t : Int), .slice (some ⟨b, o, none⟩) n pc, .int .i64 (n : Int), .bool true, .int .i64 (t : Int), .int .i64 ((t + 1 : Nat) : Int), .slice (some ⟨b, o, none⟩) n pc, .int .i64 (t : Int), .pointer (some ⟨b, o + t * 32, none⟩), .agg h1, .slice (some ⟨d, o2, none⟩) n qc, .int .i64 (t : Int), .pointer (some ⟨d, o2 + t * 32, none⟩), .agg h2, .bool false].getD zz undef, rfl, by omega, Bd.out, fun i hi => ?_⟩, ?_⟩
   ·by_cases e : i = t
    ·subst e; rw [Hx.out, Hy.out, of_decide_eq_true HE.out]
    ·exact HI.out i (by omega)
   ·simp only [intOf]; show n - (((t + 1 : Nat) : Int)).toNat < n - ((t : Int)).toNat; omega
 ·have htl' : ¬ (t : Int) < (n : Int) := by omega
  have hf : Keep (decide (ps = qs) = true) := ⟨decide_eq_true (List.ext_getElem? fun i => by
   by_cases hi : i < t
   ·exact HI.out i hi
   ·rw [List.getElem?_eq_none (by rw [hn.out]; omega), List.getElem?_eq_none (by rw [hm.out]; omega)])⟩
  refine wp_seq_k fun K15 hK15 => ?_
  refine wp_seq_k fun K16 hK16 => rgn ?_
  refine VlS (.int .i64 (t : Int)) ?_
  refine VlS (.slice pa n pc) ?_
  refine VlS (.int .i64 (n : Int)) ?_
  refine VbF ?_
  refine WL.nil (hK16 _ _ ?_)
  refine wp_cond_false rfl ?_
  refine wp_exit ?_
  refine hK4 _ _ ?_
  refine wp_seq_k fun K17 hK17 => rgn ?_
  refine VbT ?_
  refine WL.nil (hK17 _ _ ?_)
  refine wp_ret ?_
  go_ret
  rw [hf.out]
  exact ⟨rfl, B1.out⟩

theorem smh_any (v u : Value) (ps qs : List Hs) (w : World) (hv : HPa w.heap.size w v ps) (hu : HPa w.heap.size w u qs) (hN : ps.length ≤ 4398046511104) : Calls Try.prog 34 #[v, u] w fun e w' => e = .returned (.bool (decide (ps = qs))) ∧ Below w.heap.size w w' := by
 have form : ∀ (v : Value) (ps : List Hs), HPa w.heap.size w v ps → ∃ pa pc, v = .slice pa ps.length pc ∧ (0 < ps.length → ∃ b o, pa = some ⟨b, o, none⟩ ∧ b < w.heap.size ∧ w.rangeAt b o (flatH ps)) := fun v ps h => by
  rcases h with ⟨a, c, rfl, rfl⟩ | ⟨b, off, cap, rfl, h2, h3, h4⟩
  ·exact ⟨a, c, rfl, fun h => by simp at h⟩
  ·exact ⟨_, cap, rfl, fun _ => ⟨b, off, rfl, h3, h4⟩⟩
 obtain ⟨pa, pc, rfl, h1⟩ := form v ps hv
 obtain ⟨qa, qc, rfl, h2⟩ := form u qs hu
 by_cases hl : ps.length = qs.length
 ·rw [← hl] at h2 ⊢
  exact smh_eq pa qa _ pc qc ps qs w ⟨rfl⟩ ⟨hl.symm⟩ ⟨hN⟩ ⟨h1⟩ ⟨h2⟩
 ·exact smh_len pa qa _ pc _ qc ps qs w ⟨decide_eq_false fun e => hl (by rw [e])⟩ hl

theorem Try.in14 (w : World) (vs : Array Value) : (callFunc 14 vs).run Try.prog w = .ok (.enter 14 vs) w := by kernel_rfl
theorem HPa.mono {B B' : Nat} {w : World} {v : Value} {ps : List Hs} (h : HPa B w v ps) (hB : B ≤ B') : HPa B' w v ps := by
 rcases h with h | ⟨b, off, cap, h1, h2, h3, h4⟩
 ·exact .inl h
 ·exact .inr ⟨b, off, cap, h1, h2, Nat.lt_of_lt_of_le h3 hB, h4⟩
def sameL (x y : LV) : Bool := decide (x.num = y.num) && (sameC x.c y.c && decide (x.ps = y.ps))
def SameW (n : Int) (ls : List LV) (m : Int) (ms : List LV) : Prop := n = m ∧ ls.length = ms.length ∧ ∀ (i : Nat) (x y : LV), ls[i]? = some x → ms[i]? = some y → sameL x y = true
def SwP (n : Int) (ls : List LV) (m : Int) (ms : List LV) (w : World) (e : Ending) (w' : World) : Prop := ∃ b : Bool, e = .returned (.bool b) ∧ (b = true ↔ SameW n ls m ms) ∧ Below w.heap.size w w'
set_option maxRecDepth 8000 in
theorem sw_num (la lb : Option Addr) (k ca j cb : Nat) (n : Int) (ls ms : List LV) (w : World) (m : Int) (hne : ¬ n = m) (hno : Keep (¬ SameW n ls m ms)) : Calls Try.prog 14 #[.agg #[.int .i64 n, .slice la k ca], .agg #[.int .i64 m, .slice lb j cb]] w (SwP n ls m ms w) := by
 have hne' : (n == m) = false := by simpa using hne
 go_enter Try.func14, Try.ntmps14
 refine wp_seq_k fun K1 hK1 => rgn ?_
 refine WL.box (by kernel_rfl) 31 (.tmp 0) rfl #[.int .i64 n, .slice la k ca] rfl ?_
 have P1 := Keep.mk (Blk.new w 31 #[.int .i64 n, .slice la k ca])
 have b_ := below_new w (.cells #[.int .i64 n, .slice la k ca] 31)
 change WL _ _ _ _ _ (w.alloc (.cells #[.int .i64 n, .slice la k ca] 31))
 generalize w.alloc (.cells #[.int .i64 n, .slice la k ca] 31) = w1 at *
 obtain ⟨p, hp0⟩ : ∃ z, Keep (z = w.heap.size) := ⟨_, ⟨rfl⟩⟩
 rw [← hp0.out] at P1 ⊢
 have B1 : Keep (Below w.heap.size w w1) := ⟨b_⟩
 have gp : Keep (w.heap.size ≤ p) := ⟨by rw [hp0.out]; exact Nat.le_refl _⟩
 clear b_
 simp only [Act.put, pqA, pqB, pqC]
 refine WL.box (by kernel_rfl) 31 (.tmp 1) rfl #[.int .i64 m, .slice lb j cb] rfl ?_
 have Q2 := Keep.mk (Blk.new w1 31 #[.int .i64 m, .slice lb j cb])
 have b_ := below_new w1 (.cells #[.int .i64 m, .slice lb j cb] 31)
 change WL _ _ _ _ _ (w1.alloc (.cells #[.int .i64 m, .slice lb j cb] 31))
 generalize w1.alloc (.cells #[.int .i64 m, .slice lb j cb] 31) = w2 at *
 obtain ⟨q, hq0⟩ : ∃ z, Keep (z = w1.heap.size) := ⟨_, ⟨rfl⟩⟩
 rw [← hq0.out] at Q2 ⊢
 have P2 := Keep.mk (P1.out.below b_ P1.out.lt)
 have B2 : Keep (Below w.heap.size w w2) := ⟨B1.out.trans (b_.mono B1.out.size)⟩
 have gq : Keep (w.heap.size ≤ q) := ⟨by rw [hq0.out]; exact B1.out.size⟩
 clear b_
 have p0_ := P2.out.c 0 (by rfl)
 have p1_ := P2.out.c 1 (by rfl)
 have q0_ := Q2.out.c 0 (by rfl)
 have q1_ := Q2.out.c 1 (by rfl)
 simp only [Act.put, pqA, pqB, pqC]
 refine VbF ?_
 refine WL.nil (hK1 _ _ ?_)
 refine wp_seq_k fun K2 hK2 => ?_
 refine wp_seq_k fun K3 hK3 => rgn ?_
 refine VlS (.pointer (some ⟨p, 0, none⟩)) ?_
 refine VlS (.int .i64 n) ?_
 refine VlS (.pointer (some ⟨q, 0, none⟩)) ?_
 refine VlS (.int .i64 m) ?_
 refine VbT ?_
 refine VbT ?_
 refine SkS ?_
 refine SkS ?_
 refine SkS ?_
 refine SkS ?_
 refine SkS ?_
 refine SkS ?_
 refine SkS ?_
 refine VbT ?_
 refine WL.nil (hK3 _ _ ?_)
 refine wp_cond_true rfl ?_
 refine wp_seq_k fun K4 hK4 => rgn ?_
 refine VbF ?_
 refine WL.nil (hK4 _ _ ?_)
 refine wp_ret ?_
 go_ret
 exact ⟨false, rfl, ⟨fun h => (by cases h), fun h => absurd h hno.out⟩, B2.out⟩
set_option maxRecDepth 8000 in
theorem sw_len (la lb : Option Addr) (k ca j cb : Nat) (n : Int) (ls ms : List LV) (w : World) (hne : ¬ k = j) (hno : Keep (¬ SameW n ls n ms)) : Calls Try.prog 14 #[.agg #[.int .i64 n, .slice la k ca], .agg #[.int .i64 n, .slice lb j cb]] w (SwP n ls n ms w) := by
 have hne' : ((k : Int) == (j : Int)) = false := by simp; omega
 have hne2 : ¬ (k : Int) = (j : Int) := by omega
 go_enter Try.func14, Try.ntmps14
 refine wp_seq_k fun K1 hK1 => rgn ?_
 refine WL.box (by kernel_rfl) 31 (.tmp 0) rfl #[.int .i64 n, .slice la k ca] rfl ?_
 have P1 := Keep.mk (Blk.new w 31 #[.int .i64 n, .slice la k ca])
 have b_ := below_new w (.cells #[.int .i64 n, .slice la k ca] 31)
 change WL _ _ _ _ _ (w.alloc (.cells #[.int .i64 n, .slice la k ca] 31))
 generalize w.alloc (.cells #[.int .i64 n, .slice la k ca] 31) = w1 at *
 obtain ⟨p, hp0⟩ : ∃ z, Keep (z = w.heap.size) := ⟨_, ⟨rfl⟩⟩
 rw [← hp0.out] at P1 ⊢
 have B1 : Keep (Below w.heap.size w w1) := ⟨b_⟩
 have gp : Keep (w.heap.size ≤ p) := ⟨by rw [hp0.out]; exact Nat.le_refl _⟩
 clear b_
 simp only [Act.put, pqA, pqB, pqC]
 refine WL.box (by kernel_rfl) 31 (.tmp 1) rfl #[.int .i64 n, .slice lb j cb] rfl ?_
 have Q2 := Keep.mk (Blk.new w1 31 #[.int .i64 n, .slice lb j cb])
 have b_ := below_new w1 (.cells #[.int .i64 n, .slice lb j cb] 31)
 change WL _ _ _ _ _ (w1.alloc (.cells #[.int .i64 n, .slice lb j cb] 31))
 generalize w1.alloc (.cells #[.int .i64 n, .slice lb j cb] 31) = w2 at *
 obtain ⟨q, hq0⟩ : ∃ z, Keep (z = w1.heap.size) := ⟨_, ⟨rfl⟩⟩
 rw [← hq0.out] at Q2 ⊢
 have P2 := Keep.mk (P1.out.below b_ P1.out.lt)
 have B2 : Keep (Below w.heap.size w w2) := ⟨B1.out.trans (b_.mono B1.out.size)⟩
 have gq : Keep (w.heap.size ≤ q) := ⟨by rw [hq0.out]; exact B1.out.size⟩
 clear b_
 have p0_ := P2.out.c 0 (by rfl)
 have p1_ := P2.out.c 1 (by rfl)
 have q0_ := Q2.out.c 0 (by rfl)
 have q1_ := Q2.out.c 1 (by rfl)
 simp only [Act.put, pqA, pqB, pqC]
 refine VbF ?_
 refine WL.nil (hK1 _ _ ?_)
 refine wp_seq_k fun K2 hK2 => ?_
 refine wp_seq_k fun K3 hK3 => rgn ?_
 refine VlS (.pointer (some ⟨p, 0, none⟩)) ?_
 refine VlS (.int .i64 n) ?_
 refine VlS (.pointer (some ⟨q, 0, none⟩)) ?_
 refine VlS (.int .i64 n) ?_
 refine VbF ?_
 refine VbF ?_
 refine VlS (.pointer (some ⟨p, 1, none⟩)) ?_
 refine VlS (.slice la k ca) ?_
 refine VlS (.int .i64 (k : Int)) ?_
 refine VlS (.pointer (some ⟨q, 1, none⟩)) ?_
 refine VlS (.slice lb j cb) ?_
 refine VlS (.int .i64 (j : Int)) ?_
 refine VbT ?_
 refine VbT ?_
 refine WL.nil (hK3 _ _ ?_)
 refine wp_cond_true rfl ?_
 refine wp_seq_k fun K4 hK4 => rgn ?_
 refine VbF ?_
 refine WL.nil (hK4 _ _ ?_)
 refine wp_ret ?_
 go_ret
 exact ⟨false, rfl, ⟨fun h => (by cases h), fun h => absurd h hno.out⟩, B2.out⟩
set_option maxRecDepth 8000 in
set_option maxHeartbeats 2000000 in
theorem sw_loop (la lb : Option Addr) (k ca cb : Nat) (n : Int) (ls ms : List LV) (w : World) (hn : Keep (ls.length = k)) (hm : Keep (ms.length = k)) (HN : Keep (k ≤ 4398046511104)) (HL : Keep (0 < k → ∃ b o, la = some ⟨b, o, none⟩ ∧ LsAt w.heap.size w b o ls)) (HM : Keep (0 < k → ∃ b o, lb = some ⟨b, o, none⟩ ∧ LsAt w.heap.size w b o ms)) (HSz : Keep (∀ x ∈ ls, x.ps.length ≤ 4398046511104)) : Calls Try.prog 14 #[.agg #[.int .i64 n, .slice la k ca], .agg #[.int .i64 n, .slice lb k cb]] w (SwP n ls n ms w) := by
 have hnn0 : (n == n) = true := by simp
 have hkk0 : ((k : Int) == (k : Int)) = true := by simp
 go_enter Try.func14, Try.ntmps14
 refine wp_seq_k fun K1 hK1 => rgn ?_
 refine WL.box (by kernel_rfl) 31 (.tmp 0) rfl #[.int .i64 n, .slice la k ca] rfl ?_
 have P1 := Keep.mk (Blk.new w 31 #[.int .i64 n, .slice la k ca])
 have b_ := below_new w (.cells #[.int .i64 n, .slice la k ca] 31)
 change WL _ _ _ _ _ (w.alloc (.cells #[.int .i64 n, .slice la k ca] 31))
 generalize w.alloc (.cells #[.int .i64 n, .slice la k ca] 31) = w1 at *
 obtain ⟨p, hp0⟩ : ∃ z, Keep (z = w.heap.size) := ⟨_, ⟨rfl⟩⟩
 rw [← hp0.out] at P1 ⊢
 have B1 : Keep (Below w.heap.size w w1) := ⟨b_⟩
 have gp : Keep (w.heap.size ≤ p) := ⟨by rw [hp0.out]; exact Nat.le_refl _⟩
 clear b_
 simp only [Act.put, pqA, pqB, pqC]
 refine WL.box (by kernel_rfl) 31 (.tmp 1) rfl #[.int .i64 n, .slice lb k cb] rfl ?_
 have Q2 := Keep.mk (Blk.new w1 31 #[.int .i64 n, .slice lb k cb])
 have b_ := below_new w1 (.cells #[.int .i64 n, .slice lb k cb] 31)
 change WL _ _ _ _ _ (w1.alloc (.cells #[.int .i64 n, .slice lb k cb] 31))
 generalize w1.alloc (.cells #[.int .i64 n, .slice lb k cb] 31) = w2 at *
 obtain ⟨q, hq0⟩ : ∃ z, Keep (z = w1.heap.size) := ⟨_, ⟨rfl⟩⟩
 rw [← hq0.out] at Q2 ⊢
 have P2 := Keep.mk (P1.out.below b_ P1.out.lt)
 have B2 : Keep (Below w.heap.size w w2) := ⟨B1.out.trans (b_.mono B1.out.size)⟩
 have gq : Keep (w.heap.size ≤ q) := ⟨by rw [hq0.out]; exact B1.out.size⟩
 clear b_
 have p0_ := P2.out.c 0 (by rfl)
 have p1_ := P2.out.c 1 (by rfl)
 have q0_ := Q2.out.c 0 (by rfl)
 have q1_ := Q2.out.c 1 (by rfl)
 simp only [Act.put, pqA, pqB, pqC]
 refine VbF ?_
 refine WL.nil (hK1 _ _ ?_)
 refine wp_seq_k fun K2 hK2 => ?_
 refine wp_seq_k fun K3 hK3 => rgn ?_
 refine VlS (.pointer (some ⟨p, 0, none⟩)) ?_
 refine VlS (.int .i64 n) ?_
 refine VlS (.pointer (some ⟨q, 0, none⟩)) ?_
 refine VlS (.int .i64 n) ?_
 refine VbF ?_
 refine VbF ?_
 refine VlS (.pointer (some ⟨p, 1, none⟩)) ?_
 refine VlS (.slice la k ca) ?_
 refine VlS (.int .i64 (k : Int)) ?_
 refine VlS (.pointer (some ⟨q, 1, none⟩)) ?_
 refine VlS (.slice lb k cb) ?_
 refine VlS (.int .i64 (k : Int)) ?_
 refine VbF ?_
 refine VbF ?_
 refine WL.nil (hK3 _ _ ?_)
 refine wp_cond_false rfl ?_
 refine wp_skip ?_
 refine hK2 _ _ ?_
 refine wp_seq_k fun K4 hK4 => ?_
 refine wp_seq_k fun K5 hK5 => rgn ?_
 refine VlS (.int .i64 0) ?_
 refine WL.nil (hK5 _ _ ?_)
 refine wp_block ?_
 refine wp_loop (fun ac wr => ∃ (t : Nat) (f : Nat → Value), ac = { tmps := #[.agg #[.int .i64 n, .slice la k ca], .agg #[.int .i64 n, .slice lb k cb], .pointer (some ⟨p, 0, none⟩), .pointer (some ⟨q, 0, none⟩), f 4, .int .i64 (t : Int), f 6, f 7, f 8, f 9, .pointer (some ⟨p, 0, none⟩), .int .i64 n, .pointer (some ⟨q, 0, none⟩), .int .i64 n, .bool false, .bool false, .pointer (some ⟨p, 1, none⟩), .slice la k ca, .int .i64 (k : Int), .pointer (some ⟨q, 1, none⟩), .slice lb k cb, .int .i64 (k : Int), .bool false, .bool false, f 24, f 25, f 26, f 27, f 28, f 29, f 30, f 31, f 32, f 33, f 34, f 35, f 36, f 37, f 38, f 39, f 40, f 41, f 42, f 43, f 44, f 45, f 46, f 47, f 48, f 49, f 50, f 51, f 52, f 53, f 54, f 55, f 56, f 57, f 58, f 59, f 60, f 61, f 62, f 63], defers := [] } ∧ t ≤ k ∧ Below w2.heap.size w2 wr ∧ (∀ (i : Nat) (x y : LV), i < t → ls[i]? = some x → ms[i]? = some y → sameL x y = true)) (fun a _ => k - (intOf (a.tmps.getD 5 undef)).toNat) ⟨0, fun zz => [.agg #[.int .i64 n, .slice la k ca], .agg #[.int .i64 n, .slice lb k cb], .pointer (some ⟨p, 0, none⟩), .pointer (some ⟨q, 0, none⟩), .bool false, .int .i64 0, undef, undef, undef, undef, .pointer (some ⟨p, 0, none⟩), .int .i64 n, .pointer (some ⟨q, 0, none⟩), .int .i64 n, .bool false, .bool false, .pointer (some ⟨p, 1, none⟩), .slice la k ca, .int .i64 (k : Int), .pointer (some ⟨q, 1, none⟩), .slice lb k cb, .int .i64 (k : Int), .bool false, .bool false, undef, undef, undef, undef, undef, undef, undef, undef, undef, undef, undef, undef, undef, undef, undef, undef, undef, undef, undef, undef, undef, undef, undef, undef, undef, undef, undef, undef, undef, undef, undef, undef, undef, undef, undef, undef, undef, undef, undef, undef].getD zz undef, rfl, by omega, Below.refl _ _, fun i x y hi => by omega⟩ ?_
 rintro ac wr ⟨t, f, rfl, ht, hb, hI⟩
 have b1 := Keep.mk hb
 have HI := Keep.mk hI
 clear hb hI
 have Pr := Keep.mk (P2.out.below b1.out P2.out.lt)
 have Qr := Keep.mk (Q2.out.below b1.out Q2.out.lt)
 have Br : Keep (Below w.heap.size w wr) := ⟨B2.out.trans (b1.out.mono B2.out.size)⟩
 have p1_ := Pr.out.c 1 (by rfl)
 by_cases htl : t < k
 ·have htl' : (t : Int) < (k : Int) := by omega
  have hw9 : IntKind.i64.wrap ((t : Int) + 1) = ((t + 1 : Nat) : Int) := by rw [IntKind.wrap_i64]; have := HN.out; omega
  obtain ⟨b, of1, hla, hL1⟩ := HL.out (by omega)
  obtain ⟨d, of2, hlb, hM1⟩ := HM.out (by omega)
  subst hla hlb
  obtain ⟨x, Hx⟩ : ∃ z, Keep (ls[t]? = some z) := ⟨ls[t]'(by rw [hn.out]; exact htl), ⟨List.getElem?_eq_getElem _⟩⟩
  obtain ⟨y, Hy⟩ : ∃ z, Keep (ms[t]? = some z) := ⟨ms[t]'(by rw [hm.out]; exact htl), ⟨List.getElem?_eq_getElem _⟩⟩
  have HLx : Keep (∀ wx, Below w.heap.size w wx → LfAt w.heap.size wx x) := ⟨fun wx hb => (hL1.below hb).lf x (List.mem_of_getElem? Hx.out)⟩
  have HLy : Keep (∀ wx, Below w.heap.size w wx → LfAt w.heap.size wx y) := ⟨fun wx hb => (hM1.below hb).lf y (List.mem_of_getElem? Hy.out)⟩
  have hPx : Keep (x.ps.length ≤ 4398046511104) := ⟨HSz.out x (List.mem_of_getElem? Hx.out)⟩
  have hS0 : Keep (∀ wx, Below w2.heap.size w2 wx → wx.cell? ⟨p, 1, none⟩ = some (.slice (some ⟨b, of1, none⟩) k ca) ∧ wx.cell? ⟨q, 1, none⟩ = some (.slice (some ⟨d, of2, none⟩) k cb) ∧ wx.rangeAt b (of1 + t * 5) (lvA x).toList ∧ wx.rangeAt d (of2 + t * 5) (lvA y).toList) := ⟨fun wx hb =>
   have hb' : Below w.heap.size w wx := B2.out.trans (hb.mono B2.out.size)
   ⟨(P2.out.below hb P2.out.lt).c 1 (by rfl), (Q2.out.below hb Q2.out.lt).c 1 (by rfl), (hL1.below hb').at_ t x Hx.out, (hM1.below hb').at_ t y Hy.out⟩⟩
  
  refine wp_seq_k fun K6 hK6 => ?_
  refine wp_seq_k fun K7 hK7 => rgn ?_
  refine VlS (.int .i64 (t : Int)) ?_
  refine VlS (.pointer (some ⟨p, 1, none⟩)) ?_
  refine VlS (.slice (some ⟨b, of1, none⟩) k ca) ?_
  refine VlS (.int .i64 (k : Int)) ?_
  refine VbT ?_
  refine WL.nil (hK7 _ _ ?_)
  refine wp_cond_true rfl ?_
  refine wp_skip ?_
  refine hK6 _ _ ?_
  refine wp_seq_k fun K8 hK8 => ?_
  refine wp_block ?_
  refine wp_seq_k fun K9 hK9 => ?_
  have bd : Keep (Below w2.heap.size w2 wr.drew) := ⟨b1.out.drew⟩
  refine wp_region_held_drew (S := fun wx => wx.cell? ⟨p, 1, none⟩ = some (.slice (some ⟨b, of1, none⟩) k ca) ∧ wx.cell? ⟨q, 1, none⟩ = some (.slice (some ⟨d, of2, none⟩) k cb) ∧ wx.rangeAt b (of1 + t * 5) (lvA x).toList ∧ wx.rangeAt d (of2 + t * 5) (lvA y).toList) (by kernel_rfl) (hS0.out _ bd.out) (fun hHeld => ?_)
  refine tkS (i := 0) (oi := ⟨some 31, Op.fieldAddr 31 (Operand.tmp 2) 1, 0, _, _, none⟩) (v := .pointer (some ⟨p, 1, none⟩)) rfl (Or.inl ⟨by rfl, fun w hS => by obtain ⟨hS1, hS2, hS3, hS4⟩ := hS; clear hS3 hS4; go_simp⟩) hHeld ?_
  refine tkS (i := 2) (oi := ⟨some 33, Op.move (Operand.tmp 5), 3, _, _, none⟩) (v := .int .i64 (t : Int)) rfl (Or.inl ⟨by rfl, fun w hS => by obtain ⟨hS1, hS2, hS3, hS4⟩ := hS; clear hS3 hS4; go_simp⟩) hHeld ?_
  refine tkS (i := 5) (oi := ⟨some 36, Op.fieldAddr 31 (Operand.tmp 3) 1, 0, _, _, none⟩) (v := .pointer (some ⟨q, 1, none⟩)) rfl (Or.inl ⟨by rfl, fun w hS => by obtain ⟨hS1, hS2, hS3, hS4⟩ := hS; clear hS3 hS4; go_simp⟩) hHeld ?_
  refine tkS (i := 7) (oi := ⟨some 38, Op.move (Operand.tmp 5), 3, _, _, none⟩) (v := .int .i64 (t : Int)) rfl (Or.inl ⟨by rfl, fun w hS => by obtain ⟨hS1, hS2, hS3, hS4⟩ := hS; clear hS3 hS4; go_simp⟩) hHeld ?_
  refine tkS (i := 1) (oi := ⟨some 32, Op.load 29 (Operand.tmp 31), 29, _, _, none⟩) (v := .slice (some ⟨b, of1, none⟩) k ca) rfl (Or.inl ⟨by rfl, fun w hS => by obtain ⟨hS1, hS2, hS3, hS4⟩ := hS; clear hS3 hS4; go_simp⟩) hHeld ?_
  refine tkS (i := 6) (oi := ⟨some 37, Op.load 29 (Operand.tmp 36), 29, _, _, none⟩) (v := .slice (some ⟨d, of2, none⟩) k cb) rfl (Or.inl ⟨by rfl, fun w hS => by obtain ⟨hS1, hS2, hS3, hS4⟩ := hS; clear hS3 hS4; go_simp⟩) hHeld ?_
  refine tkS (i := 3) (oi := ⟨some 34, Op.indexAddr 29 (Operand.tmp 32) (Operand.tmp 33), 0, _, _, none⟩) (v := .pointer (some ⟨b, of1 + t * 5, none⟩)) rfl (Or.inl ⟨by rfl, fun w hS => by obtain ⟨hS1, hS2, hS3, hS4⟩ := hS; clear hS3 hS4; go_simp⟩) hHeld ?_
  refine tkS (i := 8) (oi := ⟨some 39, Op.indexAddr 29 (Operand.tmp 37) (Operand.tmp 38), 0, _, _, none⟩) (v := .pointer (some ⟨d, of2 + t * 5, none⟩)) rfl (Or.inl ⟨by rfl, fun w hS => by obtain ⟨hS1, hS2, hS3, hS4⟩ := hS; clear hS3 hS4; go_simp⟩) hHeld ?_
  refine tkS (i := 4) (oi := ⟨some 35, Op.load 69 (Operand.tmp 34), 69, _, _, none⟩) (v := .agg (lvA x)) rfl (yieldsIf_ld (by rfl) (Operand.tmp 34) 69 rfl b (of1 + t * 5) rfl (lvA x) _ Try.underlying69 rfl (Try.sizeLf x) fun w hS => hS.2.2.1) hHeld ?_
  refine tkS (i := 9) (oi := ⟨some 40, Op.load 69 (Operand.tmp 39), 69, _, _, none⟩) (v := .agg (lvA y)) rfl (yieldsIf_ld (by rfl) (Operand.tmp 39) 69 rfl d (of2 + t * 5) rfl (lvA y) _ Try.underlying69 rfl (Try.sizeLf y) fun w hS => hS.2.2.2) hHeld ?_
  refine wpAnyH_ready (rs := [10, 11]) (by kernel_rfl) (by simp) ?_
  refine AllReadyH.cons (o := ⟨some 6, Op.alloc 69, 0, _, _, none⟩) rfl (fun K hK => ?_) (AllReadyH.cons (o := ⟨some 7, Op.alloc 69, 0, _, _, none⟩) rfl (fun K hK => ?_) AllReadyH.nil)
  all_goals rw [if_pos (by rfl)]
  ·refine wp_newA 69 rfl _ Try.newLf ?_
   have Xa := Keep.mk (Blk.new wr.drew 69 zLf)
   have b_ := below_new wr.drew (.cells zLf 69)
   generalize wr.drew.alloc (.cells zLf 69) = wa at *
   obtain ⟨xg, hxg⟩ : ∃ z, Keep (z = wr.drew.heap.size) := ⟨_, ⟨rfl⟩⟩
   rw [← hxg.out] at Xa ⊢
   have gxg : Keep (w2.heap.size ≤ xg) := ⟨by rw [hxg.out]; exact bd.out.size⟩
   have ba : Keep (Below w2.heap.size w2 wa) := ⟨bd.out.trans (b_.mono bd.out.size)⟩
   clear b_
   refine hK _ _ (hS0.out _ ba.out) fun hHa => ?_
   clear hK
   simp only [Act.put, pqA, pqB, pqC]
   refine wpAnyH_ready (rs := [11]) (by kernel_rfl) (by simp) ?_
   refine AllReadyH.cons (o := ⟨some 7, Op.alloc 69, 0, _, _, none⟩) rfl (fun K hK => ?_) AllReadyH.nil
   rw [if_pos (by rfl)]
   refine wp_newA 69 rfl _ Try.newLf ?_
   have Yb := Keep.mk (Blk.new wa 69 zLf)
   have b_ := below_new wa (.cells zLf 69)
   generalize wa.alloc (.cells zLf 69) = wb at *
   obtain ⟨yg, hyg⟩ : ∃ z, Keep (z = wa.heap.size) := ⟨_, ⟨rfl⟩⟩
   rw [← hyg.out] at Yb ⊢
   have gyg : Keep (w2.heap.size ≤ yg) := ⟨by rw [hyg.out]; exact ba.out.size⟩
   have bb : Keep (Below w2.heap.size w2 wb) := ⟨ba.out.trans (b_.mono ba.out.size)⟩
   have Xb := Keep.mk (Xa.out.below b_ Xa.out.lt)
   have hxy : Keep (xg ≠ yg) := ⟨by have := Xa.out.lt; have := hyg.out; omega⟩
   clear b_
   refine hK _ _ (hS0.out _ bb.out) fun hHb => ?_
   clear hK
   simp only [Act.put, pqA, pqB, pqC]
   refine wpAnyH_ready (rs := [12]) (by kernel_rfl) (by simp) ?_
   refine AllReadyH.cons (o := ⟨none, Op.store 69 (Operand.tmp 6) (Operand.tmp 35), 0, _, _, none⟩) rfl (fun K hK => ?_) AllReadyH.nil
   rw [if_pos (by rfl)]
   refine wp_store_row 69 (.tmp 6) (.tmp 35) rfl xg (lvA x) rfl rfl 69 zLf Xb.out (Try.sizeLf x) rfl (lvA_one (HLx.out w (Below.refl _ _))) ?_
   have Xc := Keep.mk (Xb.out.setRow (lvA x))
   have Yc := Keep.mk (Yb.out.setRow_ne (fun e => hxy.out e.symm) (lvA x))
   have bc : Keep (Below w2.heap.size w2 (wb.setRow xg (lvA x))) := ⟨below_setRow bb.out gxg.out _⟩
   generalize wb.setRow xg (lvA x) = wc at *
   refine hK _ _ (hS0.out _ bc.out) fun hHc => ?_
   clear hK
   simp only [Act.put, pqA, pqB, pqC]
   refine wpAnyH_ready (rs := [13]) (by kernel_rfl) (by simp) ?_
   refine AllReadyH.cons (o := ⟨none, Op.store 69 (Operand.tmp 7) (Operand.tmp 40), 0, _, _, none⟩) rfl (fun K hK => ?_) AllReadyH.nil
   rw [if_pos (by rfl)]
   refine wp_store_row 69 (.tmp 7) (.tmp 40) rfl yg (lvA y) rfl rfl 69 zLf Yc.out (Try.sizeLf y) rfl (lvA_one (HLy.out w (Below.refl _ _))) ?_
   have Yd := Keep.mk (Yc.out.setRow (lvA y))
   have Xd := Keep.mk (Xc.out.setRow_ne hxy.out (lvA y))
   have be : Keep (Below w2.heap.size w2 (wc.setRow yg (lvA y))) := ⟨below_setRow bc.out gyg.out _⟩
   generalize wc.setRow yg (lvA y) = wd at *
   have Bd : Keep (Below w.heap.size w wd) := ⟨B2.out.trans (be.out.mono B2.out.size)⟩
   refine hK _ _ (hS0.out _ be.out) fun hHd => ?_
   clear hK
   have x0_ : wd.cell? ⟨xg, 0, none⟩ = some (.int .i64 x.num) := Xd.out.c 0 rfl
   have x4_ : wd.cell? ⟨xg, 4, none⟩ = some x.pv := Xd.out.c 4 rfl
   have y0_ : wd.cell? ⟨yg, 0, none⟩ = some (.int .i64 y.num) := Yd.out.c 0 rfl
   have y4_ : wd.cell? ⟨yg, 4, none⟩ = some y.pv := Yd.out.c 4 rfl
   simp only [Act.put, pqA, pqB, pqC]
   refine wpAnyH_done (by kernel_rfl) ?_ _
   refine hK9 _ _ ?_
   refine wp_seq_k fun K10 hK10 => rgn ?_
   refine VlS (.pointer (some ⟨xg, 1, none⟩)) ?_
   refine WL.midA (by kernel_rfl) 40 (.tmp 41) rfl xg 1 rfl (cvA x.c) _ (by have h := rng_mid (blk_range Xd.out); rw [Nat.zero_add] at h; exact h) Try.underlying40 rfl (Try.sizeC _ _ _) ?_
   simp only [Act.put, pqA, pqB, pqC]
   refine VlS (.pointer (some ⟨yg, 1, none⟩)) ?_
   refine WL.midA (by kernel_rfl) 40 (.tmp 43) rfl yg 1 rfl (cvA y.c) _ (by have h := rng_mid (blk_range Yd.out); rw [Nat.zero_add] at h; exact h) Try.underlying40 rfl (Try.sizeC _ _ _) ?_
   simp only [Act.put, pqA, pqB, pqC]
   refine WL.callF (by kernel_rfl) 17 _ _ rfl Try.in17 #[.agg (cvA x.c), .agg (cvA y.c)] (by simp [Act.eval]) ?_
   refine (sameC_any x.c y.c wd (HLx.out wd Bd.out).row (HLy.out wd Bd.out).row).mono ?_
   rintro e w5 ⟨rfl, k1⟩
   refine ⟨_, rfl, ?_⟩
   have Xn5 := Keep.mk (Xd.out.below k1 Xd.out.lt)
   have Yn5 := Keep.mk (Yd.out.below k1 Yd.out.lt)
   have Bn5 : Keep (Below w.heap.size w w5) := ⟨Bd.out.trans (k1.mono Bd.out.size)⟩
   have be5 : Keep (Below w2.heap.size w2 w5) := ⟨be.out.trans (k1.mono be.out.size)⟩
   clear k1 x0_ x4_ y0_ y4_
   have x0_ : w5.cell? ⟨xg, 0, none⟩ = some (.int .i64 x.num) := Xn5.out.c 0 rfl
   have x4_ : w5.cell? ⟨xg, 4, none⟩ = some x.pv := Xn5.out.c 4 rfl
   have y0_ : w5.cell? ⟨yg, 0, none⟩ = some (.int .i64 y.num) := Yn5.out.c 0 rfl
   have y4_ : w5.cell? ⟨yg, 4, none⟩ = some y.pv := Yn5.out.c 4 rfl
   simp only [Act.put, pqA, pqB, pqC]
   refine VlS (.bool (sameC x.c y.c)) ?_
   refine WL.nil (hK10 _ _ ?_)
   refine wp_seq_k fun K11 hK11 => rgn ?_
   refine VlS (.pointer (some ⟨xg, 4, none⟩)) ?_
   refine VlS (x.pv) ?_
   refine VlS (.pointer (some ⟨yg, 4, none⟩)) ?_
   refine VlS (y.pv) ?_
   refine WL.callF (by kernel_rfl) 34 _ _ rfl Try.in34 #[x.pv, y.pv] (by simp [Act.eval]) ?_
   refine (smh_any x.pv y.pv x.ps y.ps w5 ((HLx.out w5 Bn5.out).pa.mono Bn5.out.size) ((HLy.out w5 Bn5.out).pa.mono Bn5.out.size) hPx.out).mono ?_
   rintro e w6 ⟨rfl, k1⟩
   refine ⟨_, rfl, ?_⟩
   have Xn6 := Keep.mk (Xn5.out.below k1 Xn5.out.lt)
   have Yn6 := Keep.mk (Yn5.out.below k1 Yn5.out.lt)
   have Bn6 : Keep (Below w.heap.size w w6) := ⟨Bn5.out.trans (k1.mono Bn5.out.size)⟩
   have be6 : Keep (Below w2.heap.size w2 w6) := ⟨be5.out.trans (k1.mono be5.out.size)⟩
   clear k1 x0_ x4_ y0_ y4_
   have x0_ : w6.cell? ⟨xg, 0, none⟩ = some (.int .i64 x.num) := Xn6.out.c 0 rfl
   have x4_ : w6.cell? ⟨xg, 4, none⟩ = some x.pv := Xn6.out.c 4 rfl
   have y0_ : w6.cell? ⟨yg, 0, none⟩ = some (.int .i64 y.num) := Yn6.out.c 0 rfl
   have y4_ : w6.cell? ⟨yg, 4, none⟩ = some y.pv := Yn6.out.c 4 rfl
   simp only [Act.put, pqA, pqB, pqC]
   refine VlS (.bool (decide (x.ps = y.ps))) ?_
   refine WL.nil (hK11 _ _ ?_)
   refine wp_seq_k fun K12 hK12 => ?_
   cases hnu : decide (x.num = y.num)
   ·have hnq : (x.num == y.num) = false := hnu
    have hnn : ¬ x.num = y.num := of_decide_eq_false hnu
    refine rgn ?_
    refine VlS (.pointer (some ⟨xg, 0, none⟩)) ?_
    refine VlS (.int .i64 x.num) ?_
    refine VlS (.pointer (some ⟨yg, 0, none⟩)) ?_
    refine VlS (.int .i64 y.num) ?_
    refine VbT ?_
    refine VbT ?_
    refine SkS ?_
    refine SkS ?_
    refine VbT ?_
    refine VbT ?_
    refine SkS ?_
    refine SkS ?_
    refine VbT ?_
    refine WL.nil (hK12 _ _ ?_)
    refine wp_cond_true rfl ?_
    refine wp_seq_k fun K13 hK13 => rgn ?_
    refine VbF ?_
    refine WL.nil (hK13 _ _ ?_)
    refine wp_ret ?_
    go_ret
    exact ⟨false, rfl, ⟨fun h => (by cases h), fun h => (by have h2 := h.2.2 t x y Hx.out Hy.out; simp [sameL, hnn] at h2)⟩, Bn6.out⟩
   ·have hnq : (x.num == y.num) = true := hnu
    have hnn : x.num = y.num := of_decide_eq_true hnu
    cases hsc : sameC x.c y.c
    ·refine rgn ?_
     refine VlS (.pointer (some ⟨xg, 0, none⟩)) ?_
     refine VlS (.int .i64 x.num) ?_
     refine VlS (.pointer (some ⟨yg, 0, none⟩)) ?_
     refine VlS (.int .i64 y.num) ?_
     refine VbF ?_
     refine VbF ?_
     refine VbF ?_
     refine VbT ?_
     refine VbT ?_
     refine VbT ?_
     refine SkS ?_
     refine SkS ?_
     refine VbT ?_
     refine WL.nil (hK12 _ _ ?_)
     refine wp_cond_true rfl ?_
     refine wp_seq_k fun K14 hK14 => rgn ?_
     refine VbF ?_
     refine WL.nil (hK14 _ _ ?_)
     refine wp_ret ?_
     go_ret
     exact ⟨false, rfl, ⟨fun h => (by cases h), fun h => (by have h2 := h.2.2 t x y Hx.out Hy.out; simp [sameL, hsc] at h2)⟩, Bn6.out⟩
    ·cases hph : decide (x.ps = y.ps)
     ·have hpn : ¬ x.ps = y.ps := of_decide_eq_false hph
      refine rgn ?_
      refine VlS (.pointer (some ⟨xg, 0, none⟩)) ?_
      refine VlS (.int .i64 x.num) ?_
      refine VlS (.pointer (some ⟨yg, 0, none⟩)) ?_
      refine VlS (.int .i64 y.num) ?_
      refine VbF ?_
      refine VbF ?_
      refine VbT ?_
      refine VbF ?_
      refine VbF ?_
      refine VbF ?_
      refine VbF ?_
      refine VbT ?_
      refine VbT ?_
      refine WL.nil (hK12 _ _ ?_)
      refine wp_cond_true rfl ?_
      refine wp_seq_k fun K15 hK15 => rgn ?_
      refine VbF ?_
      refine WL.nil (hK15 _ _ ?_)
      refine wp_ret ?_
      go_ret
      exact ⟨false, rfl, ⟨fun h => (by cases h), fun h => (by have h2 := h.2.2 t x y Hx.out Hy.out; simp [sameL, hpn] at h2)⟩, Bn6.out⟩
     ·refine rgn ?_
      refine VlS (.pointer (some ⟨xg, 0, none⟩)) ?_
      refine VlS (.int .i64 x.num) ?_
      refine VlS (.pointer (some ⟨yg, 0, none⟩)) ?_
      refine VlS (.int .i64 y.num) ?_
      refine VbF ?_
      refine VbF ?_
      refine VbT ?_
      refine VbF ?_
      refine VbF ?_
      refine VbF ?_
      refine VbT ?_
      refine VbF ?_
      refine VbF ?_
      refine WL.nil (hK12 _ _ ?_)
      refine wp_cond_false rfl ?_
      refine wp_skip ?_
      refine hK8 _ _ ?_
      refine rgn ?_
      refine VlS (.int .i64 (t : Int)) ?_
      refine VlS (.int .i64 ((t + 1 : Nat) : Int)) ?_
      refine VlS (.int .i64 ((t + 1 : Nat) : Int)) ?_
      refine WL.nil ?_
      refine ⟨⟨t + 1, fun zz => [.agg #[.int .i64 n, .slice (some ⟨b, of1, none⟩) k ca], .agg #[.int .i64 n, .slice (some ⟨d, of2, none⟩) k cb], .pointer (some ⟨p, 0, none⟩), .pointer (some ⟨q, 0, none⟩), f 4, .int .i64 ((t + 1 : Nat) : Int), .pointer (some ⟨xg, 0, none⟩), .pointer (some ⟨yg, 0, none⟩), .bool true, .bool true, .pointer (some ⟨p, 0, none⟩), .int .i64 n, .pointer (some ⟨q, 0, none⟩), .int .i64 n, .bool false, .bool false, .pointer (some ⟨p, 1, none⟩), .slice (some ⟨b, of1, none⟩) k ca, .int .i64 (k : Int), .pointer (some ⟨q, 1, none⟩), .slice (some ⟨d, of2, none⟩) k cb, .int .i64 (k : Int), .bool false, .bool false, .int .i64 (t : Int), .pointer (some ⟨p, 1, none⟩), .slice (some ⟨b, of1, none⟩) k ca, .int .i64 (k : Int), .bool true, .int .i64 (t : Int), .int .i64 ((t + 1 : Nat) : Int), .pointer (some ⟨p, 1, none⟩), .slice (some ⟨b, of1, none⟩) k ca, .int .i64 (t : Int), .pointer (some ⟨b, of1 + t * 5, none⟩), .agg (lvA x), .pointer (some ⟨q, 1, none⟩), .slice (some ⟨d, of2, none⟩) k cb, .int .i64 (t : Int), .pointer (some ⟨d, of2 + t * 5, none⟩), .agg (lvA y), .pointer (some ⟨xg, 1, none⟩), .agg (cvA x.c), .pointer (some ⟨yg, 1, none⟩), .agg (cvA y.c), .bool true, .pointer (some ⟨xg, 4, none⟩), x.pv, .pointer (some ⟨yg, 4, none⟩), y.pv, .bool true, .pointer (some ⟨xg, 0, none⟩), .int .i64 x.num, .pointer (some ⟨yg, 0, none⟩), .int .i64 y.num, .bool false, .bool false, .bool true, .bool false, .bool false, .bool false, .bool true, .bool false, .bool false].getD zz undef, rfl, by omega, be6.out, fun i x' y' hi hx' hy' => ?_⟩, ?_⟩
      ·by_cases e : i = t
       ·subst e
        rw [Hx.out] at hx'
        rw [Hy.out] at hy'
        injection hx' with hx'
        injection hy' with hy'
        subst hx' hy'
        unfold sameL
        rw [hnu, hsc, hph]
        rfl
       ·exact HI.out i x' y' (by omega) hx' hy'
      ·simp only [intOf]; show k - (((t + 1 : Nat) : Int)).toNat < k - ((t : Int)).toNat; omega
  ·refine wp_newA 69 rfl _ Try.newLf ?_
   have Ya := Keep.mk (Blk.new wr.drew 69 zLf)
   have b_ := below_new wr.drew (.cells zLf 69)
   generalize wr.drew.alloc (.cells zLf 69) = wa at *
   obtain ⟨yg, hyg⟩ : ∃ z, Keep (z = wr.drew.heap.size) := ⟨_, ⟨rfl⟩⟩
   rw [← hyg.out] at Ya ⊢
   have gyg : Keep (w2.heap.size ≤ yg) := ⟨by rw [hyg.out]; exact bd.out.size⟩
   have ba : Keep (Below w2.heap.size w2 wa) := ⟨bd.out.trans (b_.mono bd.out.size)⟩
   clear b_
   refine hK _ _ (hS0.out _ ba.out) fun hHa => ?_
   clear hK
   simp only [Act.put, pqA, pqB, pqC]
   refine wpAnyH_ready (rs := [10]) (by kernel_rfl) (by simp) ?_
   refine AllReadyH.cons (o := ⟨some 6, Op.alloc 69, 0, _, _, none⟩) rfl (fun K hK => ?_) AllReadyH.nil
   rw [if_pos (by rfl)]
   refine wp_newA 69 rfl _ Try.newLf ?_
   have Xb := Keep.mk (Blk.new wa 69 zLf)
   have b_ := below_new wa (.cells zLf 69)
   generalize wa.alloc (.cells zLf 69) = wb at *
   obtain ⟨xg, hxg⟩ : ∃ z, Keep (z = wa.heap.size) := ⟨_, ⟨rfl⟩⟩
   rw [← hxg.out] at Xb ⊢
   have gxg : Keep (w2.heap.size ≤ xg) := ⟨by rw [hxg.out]; exact ba.out.size⟩
   have bb : Keep (Below w2.heap.size w2 wb) := ⟨ba.out.trans (b_.mono ba.out.size)⟩
   have Yb := Keep.mk (Ya.out.below b_ Ya.out.lt)
   have hxy : Keep (xg ≠ yg) := ⟨by have := Ya.out.lt; have := hxg.out; omega⟩
   clear b_
   refine hK _ _ (hS0.out _ bb.out) fun hHb => ?_
   clear hK
   simp only [Act.put, pqA, pqB, pqC]
   refine wpAnyH_ready (rs := [12]) (by kernel_rfl) (by simp) ?_
   refine AllReadyH.cons (o := ⟨none, Op.store 69 (Operand.tmp 6) (Operand.tmp 35), 0, _, _, none⟩) rfl (fun K hK => ?_) AllReadyH.nil
   rw [if_pos (by rfl)]
   refine wp_store_row 69 (.tmp 6) (.tmp 35) rfl xg (lvA x) rfl rfl 69 zLf Xb.out (Try.sizeLf x) rfl (lvA_one (HLx.out w (Below.refl _ _))) ?_
   have Xc := Keep.mk (Xb.out.setRow (lvA x))
   have Yc := Keep.mk (Yb.out.setRow_ne (fun e => hxy.out e.symm) (lvA x))
   have bc : Keep (Below w2.heap.size w2 (wb.setRow xg (lvA x))) := ⟨below_setRow bb.out gxg.out _⟩
   generalize wb.setRow xg (lvA x) = wc at *
   refine hK _ _ (hS0.out _ bc.out) fun hHc => ?_
   clear hK
   simp only [Act.put, pqA, pqB, pqC]
   refine wpAnyH_ready (rs := [13]) (by kernel_rfl) (by simp) ?_
   refine AllReadyH.cons (o := ⟨none, Op.store 69 (Operand.tmp 7) (Operand.tmp 40), 0, _, _, none⟩) rfl (fun K hK => ?_) AllReadyH.nil
   rw [if_pos (by rfl)]
   refine wp_store_row 69 (.tmp 7) (.tmp 40) rfl yg (lvA y) rfl rfl 69 zLf Yc.out (Try.sizeLf y) rfl (lvA_one (HLy.out w (Below.refl _ _))) ?_
   have Yd := Keep.mk (Yc.out.setRow (lvA y))
   have Xd := Keep.mk (Xc.out.setRow_ne hxy.out (lvA y))
   have be : Keep (Below w2.heap.size w2 (wc.setRow yg (lvA y))) := ⟨below_setRow bc.out gyg.out _⟩
   generalize wc.setRow yg (lvA y) = wd at *
   have Bd : Keep (Below w.heap.size w wd) := ⟨B2.out.trans (be.out.mono B2.out.size)⟩
   refine hK _ _ (hS0.out _ be.out) fun hHd => ?_
   clear hK
   have x0_ : wd.cell? ⟨xg, 0, none⟩ = some (.int .i64 x.num) := Xd.out.c 0 rfl
   have x4_ : wd.cell? ⟨xg, 4, none⟩ = some x.pv := Xd.out.c 4 rfl
   have y0_ : wd.cell? ⟨yg, 0, none⟩ = some (.int .i64 y.num) := Yd.out.c 0 rfl
   have y4_ : wd.cell? ⟨yg, 4, none⟩ = some y.pv := Yd.out.c 4 rfl
   simp only [Act.put, pqA, pqB, pqC]
   refine wpAnyH_done (by kernel_rfl) ?_ _
   refine hK9 _ _ ?_
   refine wp_seq_k fun K16 hK16 => rgn ?_
   refine VlS (.pointer (some ⟨xg, 1, none⟩)) ?_
   refine WL.midA (by kernel_rfl) 40 (.tmp 41) rfl xg 1 rfl (cvA x.c) _ (by have h := rng_mid (blk_range Xd.out); rw [Nat.zero_add] at h; exact h) Try.underlying40 rfl (Try.sizeC _ _ _) ?_
   simp only [Act.put, pqA, pqB, pqC]
   refine VlS (.pointer (some ⟨yg, 1, none⟩)) ?_
   refine WL.midA (by kernel_rfl) 40 (.tmp 43) rfl yg 1 rfl (cvA y.c) _ (by have h := rng_mid (blk_range Yd.out); rw [Nat.zero_add] at h; exact h) Try.underlying40 rfl (Try.sizeC _ _ _) ?_
   simp only [Act.put, pqA, pqB, pqC]
   refine WL.callF (by kernel_rfl) 17 _ _ rfl Try.in17 #[.agg (cvA x.c), .agg (cvA y.c)] (by simp [Act.eval]) ?_
   refine (sameC_any x.c y.c wd (HLx.out wd Bd.out).row (HLy.out wd Bd.out).row).mono ?_
   rintro e w5 ⟨rfl, k1⟩
   refine ⟨_, rfl, ?_⟩
   have Xn5 := Keep.mk (Xd.out.below k1 Xd.out.lt)
   have Yn5 := Keep.mk (Yd.out.below k1 Yd.out.lt)
   have Bn5 : Keep (Below w.heap.size w w5) := ⟨Bd.out.trans (k1.mono Bd.out.size)⟩
   have be5 : Keep (Below w2.heap.size w2 w5) := ⟨be.out.trans (k1.mono be.out.size)⟩
   clear k1 x0_ x4_ y0_ y4_
   have x0_ : w5.cell? ⟨xg, 0, none⟩ = some (.int .i64 x.num) := Xn5.out.c 0 rfl
   have x4_ : w5.cell? ⟨xg, 4, none⟩ = some x.pv := Xn5.out.c 4 rfl
   have y0_ : w5.cell? ⟨yg, 0, none⟩ = some (.int .i64 y.num) := Yn5.out.c 0 rfl
   have y4_ : w5.cell? ⟨yg, 4, none⟩ = some y.pv := Yn5.out.c 4 rfl
   simp only [Act.put, pqA, pqB, pqC]
   refine VlS (.bool (sameC x.c y.c)) ?_
   refine WL.nil (hK16 _ _ ?_)
   refine wp_seq_k fun K17 hK17 => rgn ?_
   refine VlS (.pointer (some ⟨xg, 4, none⟩)) ?_
   refine VlS (x.pv) ?_
   refine VlS (.pointer (some ⟨yg, 4, none⟩)) ?_
   refine VlS (y.pv) ?_
   refine WL.callF (by kernel_rfl) 34 _ _ rfl Try.in34 #[x.pv, y.pv] (by simp [Act.eval]) ?_
   refine (smh_any x.pv y.pv x.ps y.ps w5 ((HLx.out w5 Bn5.out).pa.mono Bn5.out.size) ((HLy.out w5 Bn5.out).pa.mono Bn5.out.size) hPx.out).mono ?_
   rintro e w6 ⟨rfl, k1⟩
   refine ⟨_, rfl, ?_⟩
   have Xn6 := Keep.mk (Xn5.out.below k1 Xn5.out.lt)
   have Yn6 := Keep.mk (Yn5.out.below k1 Yn5.out.lt)
   have Bn6 : Keep (Below w.heap.size w w6) := ⟨Bn5.out.trans (k1.mono Bn5.out.size)⟩
   have be6 : Keep (Below w2.heap.size w2 w6) := ⟨be5.out.trans (k1.mono be5.out.size)⟩
   clear k1 x0_ x4_ y0_ y4_
   have x0_ : w6.cell? ⟨xg, 0, none⟩ = some (.int .i64 x.num) := Xn6.out.c 0 rfl
   have x4_ : w6.cell? ⟨xg, 4, none⟩ = some x.pv := Xn6.out.c 4 rfl
   have y0_ : w6.cell? ⟨yg, 0, none⟩ = some (.int .i64 y.num) := Yn6.out.c 0 rfl
   have y4_ : w6.cell? ⟨yg, 4, none⟩ = some y.pv := Yn6.out.c 4 rfl
   simp only [Act.put, pqA, pqB, pqC]
   refine VlS (.bool (decide (x.ps = y.ps))) ?_
   refine WL.nil (hK17 _ _ ?_)
   refine wp_seq_k fun K18 hK18 => ?_
   cases hnu : decide (x.num = y.num)
   ·have hnq : (x.num == y.num) = false := hnu
    have hnn : ¬ x.num = y.num := of_decide_eq_false hnu
    refine rgn ?_
    refine VlS (.pointer (some ⟨xg, 0, none⟩)) ?_
    refine VlS (.int .i64 x.num) ?_
    refine VlS (.pointer (some ⟨yg, 0, none⟩)) ?_
    refine VlS (.int .i64 y.num) ?_
    refine VbT ?_
    refine VbT ?_
    refine SkS ?_
    refine SkS ?_
    refine VbT ?_
    refine VbT ?_
    refine SkS ?_
    refine SkS ?_
    refine VbT ?_
    refine WL.nil (hK18 _ _ ?_)
    refine wp_cond_true rfl ?_
    refine wp_seq_k fun K19 hK19 => rgn ?_
    refine VbF ?_
    refine WL.nil (hK19 _ _ ?_)
    refine wp_ret ?_
    go_ret
    exact ⟨false, rfl, ⟨fun h => (by cases h), fun h => (by have h2 := h.2.2 t x y Hx.out Hy.out; simp [sameL, hnn] at h2)⟩, Bn6.out⟩
   ·have hnq : (x.num == y.num) = true := hnu
    have hnn : x.num = y.num := of_decide_eq_true hnu
    cases hsc : sameC x.c y.c
    ·refine rgn ?_
     refine VlS (.pointer (some ⟨xg, 0, none⟩)) ?_
     refine VlS (.int .i64 x.num) ?_
     refine VlS (.pointer (some ⟨yg, 0, none⟩)) ?_
     refine VlS (.int .i64 y.num) ?_
     refine VbF ?_
     refine VbF ?_
     refine VbF ?_
     refine VbT ?_
     refine VbT ?_
     refine VbT ?_
     refine SkS ?_
     refine SkS ?_
     refine VbT ?_
     refine WL.nil (hK18 _ _ ?_)
     refine wp_cond_true rfl ?_
     refine wp_seq_k fun K20 hK20 => rgn ?_
     refine VbF ?_
     refine WL.nil (hK20 _ _ ?_)
     refine wp_ret ?_
     go_ret
     exact ⟨false, rfl, ⟨fun h => (by cases h), fun h => (by have h2 := h.2.2 t x y Hx.out Hy.out; simp [sameL, hsc] at h2)⟩, Bn6.out⟩
    ·cases hph : decide (x.ps = y.ps)
     ·have hpn : ¬ x.ps = y.ps := of_decide_eq_false hph
      refine rgn ?_
      refine VlS (.pointer (some ⟨xg, 0, none⟩)) ?_
      refine VlS (.int .i64 x.num) ?_
      refine VlS (.pointer (some ⟨yg, 0, none⟩)) ?_
      refine VlS (.int .i64 y.num) ?_
      refine VbF ?_
      refine VbF ?_
      refine VbT ?_
      refine VbF ?_
      refine VbF ?_
      refine VbF ?_
      refine VbF ?_
      refine VbT ?_
      refine VbT ?_
      refine WL.nil (hK18 _ _ ?_)
      refine wp_cond_true rfl ?_
      refine wp_seq_k fun K21 hK21 => rgn ?_
      refine VbF ?_
      refine WL.nil (hK21 _ _ ?_)
      refine wp_ret ?_
      go_ret
      exact ⟨false, rfl, ⟨fun h => (by cases h), fun h => (by have h2 := h.2.2 t x y Hx.out Hy.out; simp [sameL, hpn] at h2)⟩, Bn6.out⟩
     ·refine rgn ?_
      refine VlS (.pointer (some ⟨xg, 0, none⟩)) ?_
      refine VlS (.int .i64 x.num) ?_
      refine VlS (.pointer (some ⟨yg, 0, none⟩)) ?_
      refine VlS (.int .i64 y.num) ?_
      refine VbF ?_
      refine VbF ?_
      refine VbT ?_
      refine VbF ?_
      refine VbF ?_
      refine VbF ?_
      refine VbT ?_
      refine VbF ?_
      refine VbF ?_
      refine WL.nil (hK18 _ _ ?_)
      refine wp_cond_false rfl ?_
      refine wp_skip ?_
      refine hK8 _ _ ?_
      refine rgn ?_
      refine VlS (.int .i64 (t : Int)) ?_
      refine VlS (.int .i64 ((t + 1 : Nat) : Int)) ?_
      refine VlS (.int .i64 ((t + 1 : Nat) : Int)) ?_
      refine WL.nil ?_
      refine ⟨⟨t + 1, fun zz => [.agg #[.int .i64 n, .slice (some ⟨b, of1, none⟩) k ca], .agg #[.int .i64 n, .slice (some ⟨d, of2, none⟩) k cb], .pointer (some ⟨p, 0, none⟩), .pointer (some ⟨q, 0, none⟩), f 4, .int .i64 ((t + 1 : Nat) : Int), .pointer (some ⟨xg, 0, none⟩), .pointer (some ⟨yg, 0, none⟩), .bool true, .bool true, .pointer (some ⟨p, 0, none⟩), .int .i64 n, .pointer (some ⟨q, 0, none⟩), .int .i64 n, .bool false, .bool false, .pointer (some ⟨p, 1, none⟩), .slice (some ⟨b, of1, none⟩) k ca, .int .i64 (k : Int), .pointer (some ⟨q, 1, none⟩), .slice (some ⟨d, of2, none⟩) k cb, .int .i64 (k : Int), .bool false, .bool false, .int .i64 (t : Int), .pointer (some ⟨p, 1, none⟩), .slice (some ⟨b, of1, none⟩) k ca, .int .i64 (k : Int), .bool true, .int .i64 (t : Int), .int .i64 ((t + 1 : Nat) : Int), .pointer (some ⟨p, 1, none⟩), .slice (some ⟨b, of1, none⟩) k ca, .int .i64 (t : Int), .pointer (some ⟨b, of1 + t * 5, none⟩), .agg (lvA x), .pointer (some ⟨q, 1, none⟩), .slice (some ⟨d, of2, none⟩) k cb, .int .i64 (t : Int), .pointer (some ⟨d, of2 + t * 5, none⟩), .agg (lvA y), .pointer (some ⟨xg, 1, none⟩), .agg (cvA x.c), .pointer (some ⟨yg, 1, none⟩), .agg (cvA y.c), .bool true, .pointer (some ⟨xg, 4, none⟩), x.pv, .pointer (some ⟨yg, 4, none⟩), y.pv, .bool true, .pointer (some ⟨xg, 0, none⟩), .int .i64 x.num, .pointer (some ⟨yg, 0, none⟩), .int .i64 y.num, .bool false, .bool false, .bool true, .bool false, .bool false, .bool false, .bool true, .bool false, .bool false].getD zz undef, rfl, by omega, be6.out, fun i x' y' hi hx' hy' => ?_⟩, ?_⟩
      ·by_cases e : i = t
       ·subst e
        rw [Hx.out] at hx'
        rw [Hy.out] at hy'
        injection hx' with hx'
        injection hy' with hy'
        subst hx' hy'
        unfold sameL
        rw [hnu, hsc, hph]
        rfl
       ·exact HI.out i x' y' (by omega) hx' hy'
      ·simp only [intOf]; show k - (((t + 1 : Nat) : Int)).toNat < k - ((t : Int)).toNat; omega
 ·have htl' : ¬ (t : Int) < (k : Int) := by omega
  refine wp_seq_k fun K22 hK22 => ?_
  refine wp_seq_k fun K23 hK23 => rgn ?_
  refine VlS (.int .i64 (t : Int)) ?_
  refine VlS (.pointer (some ⟨p, 1, none⟩)) ?_
  refine VlS (.slice la k ca) ?_
  refine VlS (.int .i64 (k : Int)) ?_
  refine VbF ?_
  refine WL.nil (hK23 _ _ ?_)
  refine wp_cond_false rfl ?_
  refine wp_exit ?_
  refine hK4 _ _ ?_
  refine wp_seq_k fun K24 hK24 => rgn ?_
  refine VbT ?_
  refine WL.nil (hK24 _ _ ?_)
  refine wp_ret ?_
  go_ret
  exact ⟨true, rfl, ⟨fun _ => ⟨rfl, by rw [hn.out, hm.out], fun i x y hx hy => HI.out i x y (by have := (List.getElem?_eq_some_iff.mp hx).1; rw [hn.out] at this; omega) hx hy⟩, fun _ => rfl⟩, Br.out⟩
theorem sw_any (v u : Value) (n m : Int) (ls ms : List LV) (w : World) (hv : LsV w.heap.size w v ls) (hu : LsV w.heap.size w u ms) (hN : ls.length ≤ 4398046511104) (hS : ∀ x ∈ ls, x.ps.length ≤ 4398046511104) : Calls Try.prog 14 #[.agg (wtA n v), .agg (wtA m u)] w (SwP n ls m ms w) := by
 obtain ⟨la, ca, rfl, h1⟩ := hv.form
 obtain ⟨lb, cb, rfl, h2⟩ := hu.form
 by_cases e : n = m
 ·subst e
  by_cases hl : ls.length = ms.length
  ·rw [← hl] at h2 ⊢
   exact sw_loop la lb _ ca cb n ls ms w ⟨rfl⟩ ⟨hl.symm⟩ ⟨hN⟩ ⟨h1⟩ ⟨h2⟩ ⟨hS⟩
  ·exact sw_len la lb _ ca _ cb n ls ms w hl ⟨fun h => hl h.2.1⟩
 ·exact sw_num la lb _ ca _ cb n ls ms w m e ⟨fun h => e h.1⟩

theorem Try.in13 (w : World) (vs : Array Value) : (callFunc 13 vs).run Try.prog w = .ok (.enter 13 vs) w := by kernel_rfl
theorem map_hsL_inj : ∀ {x y : List Hs}, x.map hsL = y.map hsL → x = y
 | [], [], _ => rfl
 | [], _ :: _, h => by simp at h
 | _ :: _, [], h => by simp at h
 | a :: x, b :: y, h => by
  simp only [List.map_cons, List.cons.injEq] at h
  rw [hsL_inj h.1, map_hsL_inj h.2]
theorem fd_same {L : List CV} {kind : Int} {at_ : Nat} {key : ByteArray} {n m : Int} {ls ms : List LV} {e f : Int}
  (a1 : kmay kind = false → n = 0 ∧ ls = [] ∧ e = 40) (a2 : kmay kind = true → wrongI L ≠ 0 → n = 0 ∧ ls = [] ∧ e = wrongI L)
  (a3 : kmay kind = true → wrongI L = 0 → n = (L.length : Int) ∧ e = 0 ∧ (L = [] → ls = []) ∧ (L ≠ [] → ls.length = (fnd L.length at_ (fndB L at_ kind key)).length ∧ LIs L (fnd L.length at_ (fndB L at_ kind key)) ls))
  (b1 : kmay kind = false → m = 0 ∧ ms = [] ∧ f = 40) (b2 : kmay kind = true → wrongI L ≠ 0 → m = 0 ∧ ms = [] ∧ f = wrongI L)
  (b3 : kmay kind = true → wrongI L = 0 → m = (L.length : Int) ∧ f = 0 ∧ (L = [] → ms = []) ∧ (L ≠ [] → ms.length = (fnd L.length at_ (fndB L at_ kind key)).length ∧ LIs L (fnd L.length at_ (fndB L at_ kind key)) ms)) : e = f ∧ SameW n ls m ms := by
 cases hk : kmay kind
 ·obtain ⟨rfl, rfl, rfl⟩ := a1 hk
  obtain ⟨rfl, rfl, rfl⟩ := b1 hk
  exact ⟨rfl, rfl, rfl, fun i x y h => by simp at h⟩
 ·by_cases hw : wrongI L = 0
  ·obtain ⟨rfl, rfl, x1, x2⟩ := a3 hk hw
   obtain ⟨rfl, rfl, y1, y2⟩ := b3 hk hw
   refine ⟨rfl, rfl, ?_⟩
   by_cases hl : L = []
   ·rw [x1 hl, y1 hl]; exact ⟨rfl, fun i x y h => by simp at h⟩
   ·obtain ⟨l1, i1⟩ := x2 hl
    obtain ⟨l2, i2⟩ := y2 hl
    refine ⟨l1.trans l2.symm, fun i x y hx hy => ?_⟩
    have hi : i < (fnd L.length at_ (fndB L at_ kind key)).length := by rw [← l1]; exact (List.getElem?_eq_some_iff.mp hx).1
    have hg := List.getElem?_eq_getElem hi
    obtain ⟨p1, ⟨c, p2, p3, p4, p5⟩, p6⟩ := i1 i _ x hg hx
    obtain ⟨q1, ⟨d, q2, q3, q4, q5⟩, q6⟩ := i2 i _ y hg hy
    obtain rfl : c = d := Option.some.inj (p2.symm.trans q2)
    have hp : x.ps = y.ps := map_hsL_inj (p6.trans q6.symm)
    simp [sameL, sameC, p1, q1, p3, q3, p4, q4, p5, q5, hp]
  ·obtain ⟨rfl, rfl, rfl⟩ := a2 hk hw
   obtain ⟨rfl, rfl, rfl⟩ := b2 hk hw
   exact ⟨rfl, rfl, rfl, fun i x y h => by simp at h⟩
theorem fd_sizes {L : List CV} {kind : Int} {at_ : Nat} {key : ByteArray} {n : Int} {ls : List LV} {e : Int} (hN : L.length ≤ 1099511627776) (ha : at_ ≤ L.length)
  (a1 : kmay kind = false → n = 0 ∧ ls = [] ∧ e = 40) (a2 : kmay kind = true → wrongI L ≠ 0 → n = 0 ∧ ls = [] ∧ e = wrongI L)
  (a3 : kmay kind = true → wrongI L = 0 → n = (L.length : Int) ∧ e = 0 ∧ (L = [] → ls = []) ∧ (L ≠ [] → ls.length = (fnd L.length at_ (fndB L at_ kind key)).length ∧ LIs L (fnd L.length at_ (fndB L at_ kind key)) ls)) :
  ls.length ≤ 2 ∧ ∀ x ∈ ls, x.ps.length ≤ 4398046511104 := by
 have hnil : ls = [] → ls.length ≤ 2 ∧ ∀ x ∈ ls, x.ps.length ≤ 4398046511104 := fun h => by subst h; exact ⟨by simp, fun x hx => by simp at hx⟩
 cases hk : kmay kind
 ·exact hnil (a1 hk).2.1
 ·by_cases hw : wrongI L = 0
  ·obtain ⟨_, _, x1, x2⟩ := a3 hk hw
   by_cases hl : L = []
   ·exact hnil (x1 hl)
   ·obtain ⟨l1, i1⟩ := x2 hl
    refine ⟨by rw [l1]; exact (fnd_len (by have := List.length_pos_iff.mpr hl; omega) ha).2, fun x hx => ?_⟩
    obtain ⟨i, hi, rfl⟩ := List.getElem_of_mem hx
    have hg := List.getElem?_eq_getElem (show i < (fnd L.length at_ (fndB L at_ kind key)).length by rw [← l1]; exact hi)
    obtain ⟨_, _, p6⟩ := i1 i _ _ hg (List.getElem?_eq_getElem hi)
    have h := congrArg List.length p6
    rw [List.length_map] at h
    have := pathL_len L.length L ((fnd L.length at_ (fndB L at_ kind key))[i]'(by rw [← l1]; exact hi))
    omega
  ·exact hnil (a2 hk hw).2.1
set_option maxRecDepth 8000 in
theorem finds_at (v : Value) (L : List CV) (kind : Int) (key : ByteArray) (at_ : Nat) (er : Int) (hh : Array Value) (w : World) (hwi : Keep (wrongI L = er)) (hhe : Keep (hh = bytesA 32 (rootF L))) (HC : Keep (CsV w.heap.size w v L)) (HS : Keep (Sml L)) (HN : Keep (L.length ≤ 1099511627776)) (HA : Keep (at_ ≤ L.length)) (HAt : Keep (wrongI L = 0 → ∀ (i : Nat) (c : CV), L[i]? = some c → (stI c.k c.s kind key < 0 ↔ i < at_))) :
  Calls Try.prog 4 #[v, .int .i64 kind, .string key] w fun e w' => e = .returned (.bool true) ∧ Below w.heap.size w w' := by
 go_enter Try.func4, Try.ntmps4
 refine wp_seq_k fun K1 hK1 => rgn ?_
 refine VbF ?_
 refine WL.nil (hK1 _ _ ?_)
 refine wp_seq_k fun K2 hK2 => rgn ?_
 refine VlS (v) ?_
 refine WL.callF (by kernel_rfl) 10 _ _ rfl Try.in10 #[v] (by simp [Act.eval]) ?_
 refine (pRoot_any v L w HC.out HS.out HN.out).mono ?_
 rintro e w1 ⟨rfl, k1⟩
 refine ⟨_, rfl, ?_⟩
 rw [← hhe.out, hwi.out]
 have B1 := Keep.mk k1
 clear k1
 simp only [Act.put, pqA, pqB, pqC]
 refine VlS (.tuple #[.agg hh, .int .i64 er]) ?_
 refine VlS (.agg hh) ?_
 refine VlS (.int .i64 er) ?_
 refine WL.new (by kernel_rfl) 25 rfl _ Try.new25 ?_
 have A2 := Keep.mk (Blk.new w1 25 (bytesA 32 fun _ => 0))
 have b_ := below_new w1 (.cells (bytesA 32 fun _ => 0) 25)
 change WL _ _ _ _ _ (w1.alloc (.cells (bytesA 32 fun _ => 0) 25))
 generalize w1.alloc (.cells (bytesA 32 fun _ => 0) 25) = w2 at *
 obtain ⟨a, ha0⟩ : ∃ z, Keep (z = w1.heap.size) := ⟨_, ⟨rfl⟩⟩
 rw [← ha0.out] at A2 ⊢
 have B2 : Keep (Below w.heap.size w w2) := ⟨B1.out.trans (b_.mono B1.out.size)⟩
 have ga : Keep (w.heap.size ≤ a) := ⟨by rw [ha0.out]; exact B1.out.size⟩
 clear b_
 simp only [Act.put, pqA, pqB, pqC]
 refine WL.storeR (by kernel_rfl) 25 (.tmp 7) (.tmp 18) rfl a hh rfl rfl 25 (bytesA 32 fun _ => 0) A2.out (by rw [hhe.out]; exact Try.size25B _) (by rw [hhe.out]; exact bytesA_sizes _ _ _) (by rw [hhe.out]; exact bytesA_one _ _) ?_
 have A3 := Keep.mk (A2.out.setRow hh)
 have B3 : Keep (Below w.heap.size w (w2.setRow a hh)) := ⟨below_setRow B2.out ga.out _⟩
 generalize w2.setRow a hh = w3 at *
 simp only [Act.put]
 refine VlS (.int .i64 er) ?_
 refine WL.nil (hK2 _ _ ?_)
 refine wp_seq_k fun K3 hK3 => rgn ?_
 refine VlS (v) ?_
 refine WL.callF (by kernel_rfl) 11 _ _ rfl Try.in11 #[v] (by simp [Act.eval]) ?_
 refine (Root_any v L w3 ((HC.out.below B3.out).mono B3.out.size) HS.out HN.out).mono ?_
 rintro e w4 ⟨rfl, k1⟩
 refine ⟨_, rfl, ?_⟩
 rw [← hhe.out, hwi.out]
 have A4 := Keep.mk (A3.out.below k1 A3.out.lt)
 have B4 : Keep (Below w.heap.size w w4) := ⟨B3.out.trans (k1.mono B3.out.size)⟩
 clear k1
 simp only [Act.put, pqA, pqB, pqC]
 refine VlS (.tuple #[.agg hh, .int .i64 er]) ?_
 refine VlS (.agg hh) ?_
 refine VlS (.int .i64 er) ?_
 refine WL.new (by kernel_rfl) 25 rfl _ Try.new25 ?_
 have C5 := Keep.mk (Blk.new w4 25 (bytesA 32 fun _ => 0))
 have b_ := below_new w4 (.cells (bytesA 32 fun _ => 0) 25)
 change WL _ _ _ _ _ (w4.alloc (.cells (bytesA 32 fun _ => 0) 25))
 generalize w4.alloc (.cells (bytesA 32 fun _ => 0) 25) = w5 at *
 obtain ⟨c, hc0⟩ : ∃ z, Keep (z = w4.heap.size) := ⟨_, ⟨rfl⟩⟩
 rw [← hc0.out] at C5 ⊢
 have A5 := Keep.mk (A4.out.below b_ A4.out.lt)
 have B5 : Keep (Below w.heap.size w w5) := ⟨B4.out.trans (b_.mono B4.out.size)⟩
 have gc : Keep (w.heap.size ≤ c) := ⟨by rw [hc0.out]; exact B4.out.size⟩
 clear b_
 have nac : Keep (a ≠ c) := ⟨by have := A4.out.lt; have := hc0.out; omega⟩
 simp only [Act.put, pqA, pqB, pqC]
 refine WL.storeR (by kernel_rfl) 25 (.tmp 9) (.tmp 23) rfl c hh rfl rfl 25 (bytesA 32 fun _ => 0) C5.out (by rw [hhe.out]; exact Try.size25B _) (by rw [hhe.out]; exact bytesA_sizes _ _ _) (by rw [hhe.out]; exact bytesA_one _ _) ?_
 have C6 := Keep.mk (C5.out.setRow hh)
 have B6 : Keep (Below w.heap.size w (w5.setRow c hh)) := ⟨below_setRow B5.out gc.out _⟩
 have A6 := Keep.mk (A5.out.setRow_ne nac.out hh)
 generalize w5.setRow c hh = w6 at *
 simp only [Act.put]
 refine VlS (.int .i64 er) ?_
 refine WL.nil (hK3 _ _ ?_)
 refine wp_seq_k fun K4 hK4 => rgn ?_
 refine VlS (v) ?_
 refine VlS (.int .i64 kind) ?_
 refine VlS (.string key) ?_
 refine WL.callF (by kernel_rfl) 12 _ _ rfl Try.in12 #[v, .int .i64 kind, .string key] (by simp [Act.eval]) ?_
 refine (fd_any v L kind key at_ w6 ((HC.out.below B6.out).mono B6.out.size) HS.out HN.out HA.out HAt.out).mono ?_
 rintro e w7 ⟨n1, v1, ls1, e1, rfl, k0, k1, k2, k3, k4⟩
 refine ⟨_, rfl, ?_⟩
 have S1 := Keep.mk k0
 have F1 := Keep.mk (And.intro k2 (And.intro k3 k4))
 obtain ⟨va1, vl1, vc1, hv1⟩ : ∃ a n c, v1 = .slice a n c := by
  rcases k0 with ⟨a, c, h, _⟩ | ⟨g, o, c, h, _⟩
  ·exact ⟨_, _, _, h⟩
  ·exact ⟨_, _, _, h⟩
 subst hv1
 have b1 := Keep.mk k1
 have A7 := Keep.mk (A6.out.below k1 A6.out.lt)
 have C7 := Keep.mk (C6.out.below k1 C6.out.lt)
 have B7 : Keep (Below w.heap.size w w7) := ⟨B6.out.trans (k1.mono B6.out.size)⟩
 clear k0 k1 k2 k3 k4
 simp only [Act.put, pqA, pqB, pqC]
 refine VlS (.tuple #[.agg (wtA n1 (.slice va1 vl1 vc1)), .int .i64 e1]) ?_
 refine VlS (.agg (wtA n1 (.slice va1 vl1 vc1))) ?_
 refine VlS (.int .i64 e1) ?_
 refine WL.new (by kernel_rfl) 31 rfl _ Try.newW ?_
 have P8 := Keep.mk (Blk.new w7 31 #[.int .i64 0, .slice none 0 0])
 have b_ := below_new w7 (.cells #[.int .i64 0, .slice none 0 0] 31)
 change WL _ _ _ _ _ (w7.alloc (.cells #[.int .i64 0, .slice none 0 0] 31))
 generalize w7.alloc (.cells #[.int .i64 0, .slice none 0 0] 31) = w8 at *
 obtain ⟨p, hp0⟩ : ∃ z, Keep (z = w7.heap.size) := ⟨_, ⟨rfl⟩⟩
 rw [← hp0.out] at P8 ⊢
 have A8 := Keep.mk (A7.out.below b_ A7.out.lt)
 have C8 := Keep.mk (C7.out.below b_ C7.out.lt)
 have B8 : Keep (Below w.heap.size w w8) := ⟨B7.out.trans (b_.mono B7.out.size)⟩
 have gp : Keep (w.heap.size ≤ p) := ⟨by rw [hp0.out]; exact B7.out.size⟩
 have n8 := Keep.mk b_
 clear b_
 have nap : Keep (a ≠ p) := ⟨by have := A7.out.lt; have := hp0.out; omega⟩
 have ncp : Keep (c ≠ p) := ⟨by have := C7.out.lt; have := hp0.out; omega⟩
 simp only [Act.put, pqA, pqB, pqC]
 refine WL.storeR (by kernel_rfl) 31 (.tmp 11) (.tmp 30) rfl p (wtA n1 (.slice va1 vl1 vc1)) rfl rfl 31 #[.int .i64 0, .slice none 0 0] P8.out (by rfl) rfl (by simp [wtA, Value.oneCell']) ?_
 have P9 := Keep.mk (P8.out.setRow (wtA n1 (.slice va1 vl1 vc1)))
 have B9 : Keep (Below w.heap.size w (w8.setRow p (wtA n1 (.slice va1 vl1 vc1)))) := ⟨below_setRow B8.out gp.out _⟩
 have A9 := Keep.mk (A8.out.setRow_ne nap.out (wtA n1 (.slice va1 vl1 vc1)))
 have C9 := Keep.mk (C8.out.setRow_ne ncp.out (wtA n1 (.slice va1 vl1 vc1)))
 have b9 := below_setRow n8.out (by rw [hp0.out]; exact Nat.le_refl _ : w7.heap.size ≤ p) (wtA n1 (.slice va1 vl1 vc1))
 have T1 : Keep (LsV w7.heap.size (w8.setRow p (wtA n1 (.slice va1 vl1 vc1))) (.slice va1 vl1 vc1) ls1) := ⟨S1.out.below b9⟩
 have hs9 : Keep (w7.heap.size ≤ (w8.setRow p (wtA n1 (.slice va1 vl1 vc1))).heap.size) := ⟨b9.size⟩
 clear b9
 generalize w8.setRow p (wtA n1 (.slice va1 vl1 vc1)) = w9 at *
 simp only [Act.put]
 refine VlS (.int .i64 e1) ?_
 refine WL.nil (hK4 _ _ ?_)
 refine wp_seq_k fun K5 hK5 => rgn ?_
 refine VlS (v) ?_
 refine VlS (.int .i64 kind) ?_
 refine VlS (.string key) ?_
 refine WL.callF (by kernel_rfl) 13 _ _ rfl Try.in13 #[v, .int .i64 kind, .string key] (by simp [Act.eval]) ?_
 refine (dfd_any v L kind key at_ w9 ((HC.out.below B9.out).mono B9.out.size) HS.out HN.out HA.out HAt.out).mono ?_
 rintro e w10 ⟨n2, v2, ls2, e2, rfl, k0, k1, k2, k3, k4⟩
 refine ⟨_, rfl, ?_⟩
 have S2 := Keep.mk k0
 have F2 := Keep.mk (And.intro k2 (And.intro k3 k4))
 obtain ⟨va2, vl2, vc2, hv2⟩ : ∃ a n c, v2 = .slice a n c := by
  rcases k0 with ⟨a, c, h, _⟩ | ⟨g, o, c, h, _⟩
  ·exact ⟨_, _, _, h⟩
  ·exact ⟨_, _, _, h⟩
 subst hv2
 have b2 := Keep.mk k1
 have A10 := Keep.mk (A9.out.below k1 A9.out.lt)
 have C10 := Keep.mk (C9.out.below k1 C9.out.lt)
 have P10 := Keep.mk (P9.out.below k1 P9.out.lt)
 have B10 : Keep (Below w.heap.size w w10) := ⟨B9.out.trans (k1.mono B9.out.size)⟩
 have T1b : Keep (LsV w10.heap.size w10 (.slice va1 vl1 vc1) ls1) := ⟨(T1.out.below (k1.mono hs9.out)).mono (Nat.le_trans hs9.out k1.size)⟩
 clear k0 k1 k2 k3 k4
 simp only [Act.put, pqA, pqB, pqC]
 refine VlS (.tuple #[.agg (wtA n2 (.slice va2 vl2 vc2)), .int .i64 e2]) ?_
 refine VlS (.agg (wtA n2 (.slice va2 vl2 vc2))) ?_
 refine VlS (.int .i64 e2) ?_
 refine WL.new (by kernel_rfl) 31 rfl _ Try.newW ?_
 have Q11 := Keep.mk (Blk.new w10 31 #[.int .i64 0, .slice none 0 0])
 have b_ := below_new w10 (.cells #[.int .i64 0, .slice none 0 0] 31)
 change WL _ _ _ _ _ (w10.alloc (.cells #[.int .i64 0, .slice none 0 0] 31))
 generalize w10.alloc (.cells #[.int .i64 0, .slice none 0 0] 31) = w11 at *
 obtain ⟨q, hq0⟩ : ∃ z, Keep (z = w10.heap.size) := ⟨_, ⟨rfl⟩⟩
 rw [← hq0.out] at Q11 ⊢
 have A11 := Keep.mk (A10.out.below b_ A10.out.lt)
 have C11 := Keep.mk (C10.out.below b_ C10.out.lt)
 have P11 := Keep.mk (P10.out.below b_ P10.out.lt)
 have B11 : Keep (Below w.heap.size w w11) := ⟨B10.out.trans (b_.mono B10.out.size)⟩
 have gq : Keep (w.heap.size ≤ q) := ⟨by rw [hq0.out]; exact B10.out.size⟩
 have n11 := Keep.mk b_
 clear b_
 have naq : Keep (a ≠ q) := ⟨by have := A10.out.lt; have := hq0.out; omega⟩
 have ncq : Keep (c ≠ q) := ⟨by have := C10.out.lt; have := hq0.out; omega⟩
 have npq : Keep (p ≠ q) := ⟨by have := P10.out.lt; have := hq0.out; omega⟩
 simp only [Act.put, pqA, pqB, pqC]
 refine WL.storeR (by kernel_rfl) 31 (.tmp 13) (.tmp 37) rfl q (wtA n2 (.slice va2 vl2 vc2)) rfl rfl 31 #[.int .i64 0, .slice none 0 0] Q11.out (by rfl) rfl (by simp [wtA, Value.oneCell']) ?_
 have Q12 := Keep.mk (Q11.out.setRow (wtA n2 (.slice va2 vl2 vc2)))
 have B12 : Keep (Below w.heap.size w (w11.setRow q (wtA n2 (.slice va2 vl2 vc2)))) := ⟨below_setRow B11.out gq.out _⟩
 have A12 := Keep.mk (A11.out.setRow_ne naq.out (wtA n2 (.slice va2 vl2 vc2)))
 have C12 := Keep.mk (C11.out.setRow_ne ncq.out (wtA n2 (.slice va2 vl2 vc2)))
 have P12 := Keep.mk (P11.out.setRow_ne npq.out (wtA n2 (.slice va2 vl2 vc2)))
 have b12 := below_setRow n11.out (by rw [hq0.out]; exact Nat.le_refl _ : w10.heap.size ≤ q) (wtA n2 (.slice va2 vl2 vc2))
 have T1c : Keep (LsV (w11.setRow q (wtA n2 (.slice va2 vl2 vc2))).heap.size (w11.setRow q (wtA n2 (.slice va2 vl2 vc2))) (.slice va1 vl1 vc1) ls1) := ⟨(T1b.out.below b12).mono b12.size⟩
 have T2c : Keep (LsV (w11.setRow q (wtA n2 (.slice va2 vl2 vc2))).heap.size (w11.setRow q (wtA n2 (.slice va2 vl2 vc2))) (.slice va2 vl2 vc2) ls2) := ⟨(S2.out.below b12).mono b12.size⟩
 clear b12
 generalize w11.setRow q (wtA n2 (.slice va2 vl2 vc2)) = w12 at *
 simp only [Act.put]
 refine VlS (.int .i64 e2) ?_
 refine WL.nil (hK5 _ _ ?_)
 refine wp_seq_k fun K6 hK6 => ?_
 have hsm := fd_same F1.out.1 F1.out.2.1 F1.out.2.2 F2.out.1 F2.out.2.1 F2.out.2.2
 have hsz := fd_sizes HN.out HA.out F1.out.1 F1.out.2.1 F1.out.2.2
 have HSm := Keep.mk hsm.2
 have HSz := Keep.mk hsz
 obtain rfl := hsm.1
 clear hsm hsz
 refine rgn ?_
 refine WL.row (by kernel_rfl) 25 (.tmp 7) rfl a rfl 25 hh _ A12.out Try.underlying25 rfl (by rw [hhe.out]; exact Try.size25B _) ?_
 simp only [Act.put, pqA, pqB, pqC]
 refine WL.row (by kernel_rfl) 25 (.tmp 9) rfl c rfl 25 hh _ C12.out Try.underlying25 rfl (by rw [hhe.out]; exact Try.size25B _) ?_
 simp only [Act.put, pqA, pqB, pqC]
 have hq_ := eqA hhe.out w12
 refine WL.val (by kernel_rfl) (.bool true) (by go_simp) ?_
 clear hq_
 simp only [Act.put, pqA, pqB, pqC]
 refine VbT ?_
 refine VlS (.int .i64 er) ?_
 refine VlS (.int .i64 er) ?_
 refine VbT ?_
 refine VbT ?_
 refine VbT ?_
 refine VlS (.int .i64 e1) ?_
 refine VlS (.int .i64 e1) ?_
 refine VbT ?_
 refine VbT ?_
 refine VbT ?_
 refine WL.row (by kernel_rfl) 31 (.tmp 11) rfl p rfl 31 (wtA n1 (.slice va1 vl1 vc1)) _ P12.out Try.underlying31 rfl (by rfl) ?_
 simp only [Act.put, pqA, pqB, pqC]
 refine WL.row (by kernel_rfl) 31 (.tmp 13) rfl q rfl 31 (wtA n2 (.slice va2 vl2 vc2)) _ Q12.out Try.underlying31 rfl (by rfl) ?_
 simp only [Act.put, pqA, pqB, pqC]
 refine WL.callF (by kernel_rfl) 14 _ _ rfl Try.in14 #[.agg (wtA n1 (.slice va1 vl1 vc1)), .agg (wtA n2 (.slice va2 vl2 vc2))] (by simp [Act.eval]) ?_
 refine (sw_any _ _ n1 n2 ls1 ls2 w12 T1c.out T2c.out (by have := HSz.out.1; omega) HSz.out.2).mono ?_
 rintro e w13 ⟨sb, rfl, k0, k1⟩
 refine ⟨_, rfl, ?_⟩
 obtain rfl : sb = true := k0.mpr HSm.out
 have B13 : Keep (Below w.heap.size w w13) := ⟨B12.out.trans (k1.mono B12.out.size)⟩
 clear k0 k1
 simp only [Act.put, pqA, pqB, pqC]
 refine VbT ?_
 refine VbT ?_
 refine WL.callF (by kernel_rfl) 9 _ _ rfl Try.in9 #[] (by simp) ?_
 refine (fixed_any w13).mono ?_
 rintro e w14 ⟨rfl, k1⟩
 refine ⟨_, rfl, ?_⟩
 have B14 : Keep (Below w.heap.size w w14) := ⟨B13.out.trans (k1.mono B13.out.size)⟩
 clear k1
 simp only [Act.put, pqA, pqB, pqC]
 refine VbT ?_
 refine VbT ?_
 refine WL.nil (hK6 _ _ ?_)
 refine wp_ret ?_
 go_ret
 exact ⟨rfl, B14.out⟩
theorem finds_any (v : Value) (L : List CV) (kind : Int) (key : ByteArray) (w : World) (hC : CsV w.heap.size w v L) (hS : Sml L) (hN : L.length ≤ 1099511627776) :
  Calls Try.prog 4 #[v, .int .i64 kind, .string key] w fun e w' => e = .returned (.bool true) ∧ Below w.heap.size w w' := by
 by_cases hW : wrongI L = 0
 ·obtain ⟨a, h1, h2⟩ := at_of kind key hW
  exact finds_at v L kind key a _ _ w ⟨rfl⟩ ⟨rfl⟩ ⟨hC⟩ ⟨hS⟩ ⟨hN⟩ ⟨h1⟩ ⟨fun _ => h2⟩
 ·exact finds_at v L kind key 0 _ _ w ⟨rfl⟩ ⟨rfl⟩ ⟨hC⟩ ⟨hS⟩ ⟨hN⟩ ⟨Nat.zero_le _⟩ ⟨fun h => absurd h hW⟩

end Go.Proofs.Ytjklmkeedhgncaa
namespace Go.Proofs.Ytjklmkeedhgncaa
open Go.ChangeShapes Go.WideShapes Go.ChangeAt Go.RowKit Go.Deep
set_option linter.unusedSimpArgs false
set_option linter.unusedVariables false
theorem Try.cellsOf3 : Try.prog.cellsOf 3 = 1 := by kernel_rfl
theorem Try.cellsOf9 : Try.prog.cellsOf 9 = 1 := by kernel_rfl
theorem Try.cellsOf5 : Try.prog.cellsOf 5 = 1 := by kernel_rfl
theorem Try.cellsOf38 : Try.prog.cellsOf 38 = 1 := by kernel_rfl
theorem Try.cellsOf25 : Try.prog.cellsOf 25 = 32 := by kernel_rfl
theorem Try.cellsOf40 : Try.prog.cellsOf 40 = 3 := by kernel_rfl
theorem Try.bytesOf5 : Try.prog.bytesOf 5 = 1 := by kernel_rfl
theorem reach_is : reachBytes = 140737488351232 := by decide
theorem add_none' (b o i : Nat) : (⟨b, o, none⟩ : Addr).add i = ⟨b, o + i, none⟩ := by
 cases i with
 | zero => rfl
 | succ i => rfl
theorem wf_u8 {n : Int} (h : (Lit.int .u8 n).wf = true) : 0 ≤ n ∧ n < 256 := by
 have h1 : IntKind.u8.min = 0 := by decide
 have h2 : IntKind.u8.max = 255 := by decide
 simp only [Lit.wf, h1, h2, Bool.and_eq_true, decide_eq_true_eq] at h
 omega
theorem wf_i64 {n : Int} (h : (Lit.int .i64 n).wf = true) : -9223372036854775808 ≤ n ∧ n ≤ 9223372036854775807 := by
 have h1 : IntKind.i64.min = -9223372036854775808 := by decide
 have h2 : IntKind.i64.max = 9223372036854775807 := by decide
 simp only [Lit.wf, h1, h2, Bool.and_eq_true, decide_eq_true_eq] at h
 omega

theorem row_of_trod {H : Type} {enc : TypeId × Value → H} {W : World} {sp : Nat → Bool} {held : Bool} {n base : Nat} {v : Value} {x : DataW H × List MemPlace} (hf : DataW.trod enc Try.prog W base sp held n 38 [v] = some x) (hw : ∀ n ∈ x.1.weights Try.prog 38, n ≤ reachBytes) :
  ∃ l : List Int, RowAt W v l ∧ Byts l ∧ l.length ≤ 140737488351232 := by
 rcases open_ints Try.underlying38 Try.underlying5 Try.cellsOf5 hf with ⟨hcs, _⟩ | ⟨a, len, cap, zs, hcs, _, hl, hm, hz, hx, hcell, hwz⟩
 ·simp at hcs
  subst hcs
  exact ⟨[], .inl ⟨rfl, rfl⟩, Byts.nil, by simp⟩
 ·simp at hcs
  subst hcs
  unfold maxLen at hm
  have hlz : len ≤ zs.length := by rw [hz]; split <;> omega
  have hbz : Byts zs := fun c hc => wf_u8 (hwz c hc)
  have hb : len ≤ 140737488351232 := by
   have h1 := hw ((zs.take len).length + (zs.drop len).length) (by
    rw [hx]
    simp only [DataW.weights, Try.underlying38]
    simp [lits, Try.bytesOf5])
   rw [List.length_take, reach_is] at h1
   omega
  by_cases h0 : len = 0
  ·subst h0
   exact ⟨[], .inr (.inl ⟨a, cap, rfl, rfl⟩), Byts.nil, by simp⟩
  ·have hs : a.spot = none := by
    have := hcell 0 (by omega)
    rw [show a.add 0 = a from rfl] at this
    exact World.cell?_spot this
   obtain ⟨b, off, sp⟩ := a
   obtain rfl : sp = none := hs
   have hlen : (zs.take len).length = len := by rw [List.length_take]; omega
   refine ⟨zs.take len, .inr (.inr ⟨b, off, cap, by rw [hlen], by omega, fun i hi => ?_⟩), hbz.take len, by omega⟩
   rw [hlen] at hi
   have := hcell i (by omega)
   rw [add_none'] at this
   rw [this]
   simp [List.getD, hi]
theorem trod_struct3 {H : Type} {enc : TypeId × Value → H} {P : Program} {w : World} {base : Nat} {spare : Nat → Bool} {held : Bool} {t : TypeId} {f0 f1 f2 : Field} {fuel : Nat} {cs : List Value} {x : DataW H × List MemPlace} (ht : P.underlying t = some (.struct #[f0, f1, f2])) (h : DataW.trod enc P w base spare held fuel t cs = some x) :
  ∃ y0 y1 y2 n, x.1 = .agg [y0.1, y1.1, y2.1] ∧ cs.length = P.cellsOf t ∧ DataW.trod enc P w base spare held n f0.type ((cs.drop f0.offset).take (P.cellsOf f0.type)) = some y0 ∧
   DataW.trod enc P w base spare held n f1.type ((cs.drop f1.offset).take (P.cellsOf f1.type)) = some y1 ∧ DataW.trod enc P w base spare held n f2.type ((cs.drop f2.offset).take (P.cellsOf f2.type)) = some y2 := by
 obtain ⟨xs, n, _, rfl, hl, hlen, hf⟩ := DataW.trod_struct ht h
 match xs, hlen with
 | [y0, y1, y2], _ => exact ⟨y0, y1, y2, n, by simp, hl, by simpa using hf 0 f0 rfl, by simpa using hf 1 f1 rfl, by simpa using hf 2 f2 rfl⟩
theorem take_one {l : List Value} {i : Nat} {v : Value} (h : (l.drop i).take 1 = [v]) : l[i]? = some v := by
 have h2 : ((l.drop i).take 1)[0]? = some v := by rw [h]; rfl
 rw [List.getElem?_take, if_pos (by omega), List.getElem?_drop] at h2
 simpa using h2
theorem hash_of_trod {H : Type} {enc : TypeId × Value → H} {W : World} {sp : Nat → Bool} {held : Bool} {n base : Nat} {l : List Value} {x : DataW H × List MemPlace} (hf : DataW.trod enc Try.prog W base sp held n 25 l = some x) :
  ∃ c : Nat → Int, l = (bytesA 32 c).toList ∧ ∀ i, i < 32 → 0 ≤ c i ∧ c i < 256 := by
 obtain ⟨xs, m, _, _, hl, hx, hel⟩ := DataW.trod_array Try.underlying25 hf
 rw [Try.cellsOf25] at hl
 rw [Try.cellsOf5] at hel
 have each : ∀ i, i < 32 → ∃ z : Int, l[i]? = some (.int .u8 z) ∧ 0 ≤ z ∧ z < 256 := by
  intro i hi
  have h1 := hel i hi
  rw [List.getElem?_eq_getElem (by omega), Nat.mul_one] at h1
  obtain ⟨z, hz, _, hw⟩ := DataW.trod_int Try.underlying5 h1
  have hb := wf_u8 hw
  exact ⟨z, take_one hz, by omega, by omega⟩
 obtain ⟨c, hc⟩ := Go.Deep.choose_lt each
 refine ⟨c, ?_, fun i hi => (hc i hi).2⟩
 apply List.ext_getElem?
 intro i
 by_cases hi : i < 32
 ·rw [(hc i hi).1, Array.getElem?_toList, bytesA_get _ _ _ hi]
 ·rw [List.getElem?_eq_none (by omega), List.getElem?_eq_none (by rw [Array.length_toList, bytesA_size]; omega)]
theorem hrow_of_trod {H : Type} {enc : TypeId × Value → H} {W : World} {sp : Nat → Bool} {held : Bool} {n base : Nat} {v : Value} {x : DataW H × List MemPlace} (hf : DataW.trod enc Try.prog W base sp held n 67 [v] = some x) :
  ∃ L : List Hs, HRow W v L ∧ (L = [] ∨ ∃ (D : Nat → DataW H) (rest : List (DataW H)), x.1 = .slice ((List.range L.length).map D) rest) := by
 rcases open_slice Try.underlying67 hf with ⟨hcs, _⟩ | ⟨a, len, cap, m, n, D, Pl, hcs, _, hl, hm, hz, hx, hcell⟩
 ·simp at hcs
  subst hcs
  exact ⟨[], .inl ⟨none, 0, rfl, rfl, fun _ => rfl⟩, .inl rfl⟩
 ·simp at hcs
  subst hcs
  have hlz : len ≤ m := by rw [hz]; split <;> omega
  by_cases h0 : len = 0
  ·subst h0
   exact ⟨[], .inl ⟨some a, cap, rfl, rfl, fun h => by cases h⟩, .inl rfl⟩
  ·have each0 : ∀ i, i < len → ∃ c : Nat → Int, (∀ j, j < 32 → 0 ≤ c j ∧ c j < 256) ∧ ∀ j, j < 32 → W.cell? ((a.add (i * 32)).add j) = some (.int .u8 (c j)) := by
    intro i hi
    obtain ⟨cs', h1, h2⟩ := hcell i (by omega)
    rw [Try.cellsOf25] at h1
    obtain ⟨_, hlen, hce⟩ := World.cells?_some h1
    obtain ⟨c, hcs, hc⟩ := hash_of_trod h2
    refine ⟨c, hc, fun j hj => ?_⟩
    rw [hce j hj, hcs, Array.getElem?_toList, bytesA_get 32 c j hj]
   have hs : a.spot = none := by
    obtain ⟨c, _, h3⟩ := each0 0 (by omega)
    have h4 := h3 0 (by omega)
    rw [Nat.zero_mul, show (a.add 0).add 0 = a from rfl] at h4
    exact World.cell?_spot h4
   obtain ⟨b, off, sp⟩ := a
   obtain rfl : sp = none := hs
   have each : ∀ i, i < len → ∃ y : Hs, W.rangeAt b (off + i * 32) (encH y) := by
    intro i hi
    obtain ⟨c, hc, h3⟩ := each0 i hi
    refine ⟨Hs.mk' c hc, fun j v hv => ?_⟩
    have hj : j < 32 := by have := (List.getElem?_eq_some_iff.1 hv).1; rwa [encH_len] at this
    rw [encH_get _ _ hj, Hs.mk'_f _ _ _ hj] at hv
    have h4 := h3 j hj
    rw [Addr.add_mid, Addr.add_mid] at h4
    rw [h4]; exact hv
   obtain ⟨y, hy⟩ := Go.Deep.choose_lt each
   refine ⟨(List.range len).map y, .inr ⟨b, off, cap, by simp, by simpa using hl, rangeAt_of_elems fun i hi => ?_⟩, .inr ⟨D, (List.range (m - len)).map fun j => D (len + j), ?_⟩⟩
   ·have hi' : i < len := by simpa using hi
    simpa using hy i hi'
   ·rw [hx]; simp
theorem bulk_one {H : Type} (d : DataW H) : 1 ≤ Rows.uptoBulk d := by
 unfold Rows.uptoBulk
 split <;> omega
theorem bulk_all {H : Type} : ∀ l : List (DataW H), l.length ≤ Rows.uptoBulkAll l
 | [] => Nat.zero_le _
 | d :: r => by
  have h1 := bulk_all r
  have h2 := bulk_one d
  simp only [Rows.uptoBulkAll, List.length_cons]
  omega
theorem bulk_mem {H : Type} {d : DataW H} : ∀ {l : List (DataW H)}, d ∈ l → Rows.uptoBulk d ≤ Rows.uptoBulkAll l
 | [], h => by simp at h
 | e :: r, h => by
  simp only [Rows.uptoBulkAll]
  rcases List.mem_cons.1 h with rfl | h
  ·omega
  ·have := bulk_mem h; omega
theorem row_lt {w : World} {v : Value} {l : List Int} (h : RowAt w v l) (h0 : l ≠ []) : ∀ k, v.ownBlock = some k → k < w.heap.size := by
 intro k hk
 rcases h with ⟨_, rfl⟩ | ⟨_, _, _, rfl⟩ | ⟨q, off, cap, rfl, h1, h2⟩
 ·exact absurd rfl h0
 ·exact absurd rfl h0
 ·have := cell_lt (h2 0 (List.length_pos_iff.2 h0))
  simp [Value.ownBlock] at hk
  omega
theorem rowb_of_trod {H : Type} {enc : TypeId × Value → H} {W : World} {sp : Nat → Bool} {held : Bool} {n base : Nat} {v : Value} {x : DataW H × List MemPlace} (hf : DataW.trod enc Try.prog W base sp held n 38 [v] = some x) :
  ∃ l : List Int, RowAt W v l ∧ Byts l ∧ l.length ≤ Rows.uptoBulk x.1 := by
 rcases open_ints Try.underlying38 Try.underlying5 Try.cellsOf5 hf with ⟨hcs, _⟩ | ⟨a, len, cap, zs, hcs, _, hl, hm, hz, hx, hcell, hwz⟩
 ·simp at hcs
  subst hcs
  exact ⟨[], .inl ⟨rfl, rfl⟩, Byts.nil, by simp⟩
 ·simp at hcs
  subst hcs
  have hlz : len ≤ zs.length := by rw [hz]; split <;> omega
  have hbz : Byts zs := fun c hc => wf_u8 (hwz c hc)
  have hb : len ≤ Rows.uptoBulk x.1 := by
   rw [hx]
   simp only [Rows.uptoBulk]
   have h1 := bulk_all (lits (H := H) .u8 (zs.take len))
   have h2 : (lits (H := H) .u8 (zs.take len)).length = len := by simp [lits]; omega
   omega
  by_cases h0 : len = 0
  ·subst h0
   exact ⟨[], .inr (.inl ⟨a, cap, rfl, rfl⟩), Byts.nil, by simp⟩
  ·have hs : a.spot = none := by
    have := hcell 0 (by omega)
    rw [show a.add 0 = a from rfl] at this
    exact World.cell?_spot this
   obtain ⟨b, off, sp⟩ := a
   obtain rfl : sp = none := hs
   refine ⟨zs.take len, .inr (.inr ⟨b, off, cap, by rw [List.length_take]; congr 1; omega, by rw [List.length_take]; omega, fun i hi => ?_⟩), hbz.take len, by rw [List.length_take]; omega⟩
   rw [List.length_take] at hi
   have h1 := hcell i (by omega)
   rw [add_none'] at h1
   rw [h1]
   congr 2
   rw [List.getD_eq_getElem?_getD, List.getD_eq_getElem?_getD, List.getElem?_take, if_pos (by omega)]
set_option maxRecDepth 8000 in
theorem cell_of_trod {H : Type} {enc : TypeId × Value → H} {W : World} {sp : Nat → Bool} {held : Bool} {n base : Nat} {cs : List Value} {x : DataW H × List MemPlace} (hf : DataW.trod enc Try.prog W base sp held n 40 cs = some x) :
  ∃ c : CV, cs = cvL c ∧ RowAt W c.v c.l ∧ Byts c.l ∧ (-9223372036854775808 ≤ c.k ∧ c.k ≤ 9223372036854775807) ∧ c.s.size + c.l.length ≤ Rows.uptoBulk x.1 := by
 obtain ⟨y0, y1, y2, k, hx, hl, h0, h1, h2⟩ := trod_struct3 Try.underlying40 hf
 rw [Try.cellsOf40] at hl
 match cs, hl with
 | [a, b, c], _ =>
  simp only [Try.cellsOf3, Try.cellsOf9, Try.cellsOf38, List.drop_zero, List.take_succ_cons, List.take_zero, List.drop_succ_cons] at h0 h1 h2
  obtain ⟨n0, e0, w0⟩ := DataW.trod_int Try.underlying3 h0
  obtain ⟨s, e1, ex, _⟩ := DataW.trod_string Try.underlying9 h1
  obtain ⟨l, r1, r2, r3⟩ := rowb_of_trod h2
  simp at e0 e1
  refine ⟨⟨n0, s, c, l⟩, by rw [e0, e1]; rfl, r1, r2, wf_i64 w0.2, ?_⟩
  show s.size + l.length ≤ _
  have e2 : y1.1 = .lit (.string s.data.toList) := by rw [ex]
  rw [hx]
  simp only [Rows.uptoBulk, Rows.uptoBulkAll, e2]
  have : s.data.toList.length = s.size := by simp
  omega
set_option maxRecDepth 8000 in
theorem cells_of_trod {H : Type} {enc : TypeId × Value → H} {W : World} {sp : Nat → Bool} {held : Bool} {n base : Nat} {v : Value} {x : DataW H × List MemPlace} (hf : DataW.trod enc Try.prog W base sp held n 23 [v] = some x) :
  ∃ L : List CV, CsV W.heap.size W v L ∧ L.length ≤ Rows.uptoBulk x.1 ∧ ∀ c ∈ L, Byts c.l ∧ (-9223372036854775808 ≤ c.k ∧ c.k ≤ 9223372036854775807) ∧ c.s.size + c.l.length ≤ Rows.uptoBulk x.1 := by
 rcases open_slice Try.underlying23 hf with ⟨hcs, _⟩ | ⟨a, len, cap, m, n, D, Pl, hcs, _, hl, hm, hz, hx, hcell⟩
 ·simp at hcs
  subst hcs
  exact ⟨[], .inl ⟨none, 0, rfl, rfl⟩, by simp, fun c hc => by simp at hc⟩
 ·simp at hcs
  subst hcs
  have hlz : len ≤ m := by rw [hz]; split <;> omega
  by_cases h0 : len = 0
  ·subst h0
   exact ⟨[], .inl ⟨some a, cap, rfl, rfl⟩, by simp, fun c hc => by simp at hc⟩
  ·have each : ∀ i, i < len → ∃ c : CV, (∀ j u, (cvL c)[j]? = some u → W.cell? ((a.add (i * 3)).add j) = some u) ∧ RowAt W c.v c.l ∧ Byts c.l ∧ (-9223372036854775808 ≤ c.k ∧ c.k ≤ 9223372036854775807) ∧ c.s.size + c.l.length ≤ Rows.uptoBulk (D i) := by
    intro i hi
    obtain ⟨cs', h1, h2⟩ := hcell i (by omega)
    rw [Try.cellsOf40] at h1
    obtain ⟨_, hlen, hce⟩ := World.cells?_some h1
    obtain ⟨c, e, r1, r2, r3, r4⟩ := cell_of_trod h2
    refine ⟨c, fun j u hu => ?_, r1, r2, r3, r4⟩
    rw [← e] at hu
    have hj := (List.getElem?_eq_some_iff.1 hu).1
    rw [hce j (by omega)]; exact hu
   haveI : Inhabited CV := ⟨⟨0, ByteArray.empty, .nilFunc, []⟩⟩
   obtain ⟨f, hfc⟩ := Go.Deep.choose_lt each
   have hs : a.spot = none := by
    have := (hfc 0 (by omega)).1 0 (.int .i64 (f 0).k) rfl
    rw [Nat.zero_mul, show (a.add 0).add 0 = a from rfl] at this
    exact World.cell?_spot this
   obtain ⟨b, off, sp⟩ := a
   obtain rfl : sp = none := hs
   have hb0 : b < W.heap.size := by
    have := (hfc 0 (by omega)).1 0 (.int .i64 (f 0).k) rfl
    rw [Addr.add_mid, Addr.add_mid] at this
    exact cell_lt this
   have hbk : ∀ i, i < len → Rows.uptoBulk (D i) ≤ Rows.uptoBulk x.1 := fun i hi => by
    rw [hx]
    simp only [Rows.uptoBulk]
    have := bulk_mem (d := D i) (l := (List.range len).map D) (List.mem_map.2 ⟨i, List.mem_range.2 hi, rfl⟩)
    omega
   refine ⟨(List.range len).map f, .inr ⟨b, off, cap, by simp, by simpa using hl, hb0, fun i c hc => ?_, fun c hc => ?_⟩, ?_, fun c hc => ?_⟩
   ·have hi : i < len := by have := (List.getElem?_eq_some_iff.1 hc).1; simpa using this
    have e : f i = c := by simpa [hi] using hc
    subst e
    intro j u hu
    have h1 := (hfc i hi).1 j u hu
    rw [Addr.add_mid, Addr.add_mid] at h1
    exact h1
   ·obtain ⟨i, hi, rfl⟩ := List.mem_map.1 hc
    have h1 := hfc i (List.mem_range.1 hi)
    exact ⟨h1.2.1, fun h => row_lt h1.2.1 h⟩
   ·rw [hx]
    simp only [Rows.uptoBulk]
    have := bulk_all ((List.range len).map D)
    simp only [List.length_map, List.length_range] at this ⊢
    omega
   ·obtain ⟨i, hi, rfl⟩ := List.mem_map.1 hc
    have hi := List.mem_range.1 hi
    have h1 := hfc i hi
    have h2 := hbk i hi
    exact ⟨h1.2.2.1, h1.2.2.2.1, by have := h1.2.2.2.2; omega⟩

end Go.Proofs.Ytjklmkeedhgncaa
