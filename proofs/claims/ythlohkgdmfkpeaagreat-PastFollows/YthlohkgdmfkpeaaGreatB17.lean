import Derived.Test.YthlohkgdmfkpeaaGreatB16
import Derived.Test.YthlohkgdmfkpeaaGreatB15
namespace Go.Proofs.YthlohkgdmfkpeaaGreat
open Go.RowKit
set_option linter.unusedSimpArgs false
set_option linter.unusedVariables false

theorem num_of {ids : List Hs} {h : Hs} {n : Nat} (e : ixH ids h = n) (hn : n < ids.length) : numV ids h = (n : Int) := by rw [numV, if_pos (by rw [e]; exact hn), e]
theorem num_in {ids : List Hs} {h : Hs} (hh : h ∈ ids) : 0 ≤ numV ids h := by rw [numV, if_pos (ixH_lt.2 hh)]; omega
def q0 : EP := (dEX, .slice none 0 0, .slice none 0 0)
theorem grow_below (w : World) (q : Nat) (os : Array Obj) : Below w.heap.size w (Go.Sort.grow (w.drewN q) os) where
 os := rfl
 tape := rfl
 output := rfl
 size := by show w.heap.size ≤ (w.heap ++ os).size; simp
 block i hi := by show (w.heap ++ os)[i]? = _; rw [Array.getElem?_append_left hi]
theorem Tryz.in29 (w : World) (vs : Array Value) : (callFunc 29 vs).run Tryz.prog w = .ok (.enter 29 vs) w := by kernel_rfl
theorem Tryz.in30 (w : World) (vs : Array Value) : (callFunc 30 vs).run Tryz.prog w = .ok (.enter 30 vs) w := by kernel_rfl
theorem Tryz.in21 (w : World) (vs : Array Value) : (callFunc 21 vs).run Tryz.prog w = .ok (.enter 21 vs) w := by kernel_rfl
set_option maxRecDepth 8000 in
set_option maxHeartbeats 2000000 in
theorem rising_law (v : Value) (l : List Hs) (w : World) (hr : HRow w v l) (hp : l.Pairwise Lt) (hn : l.length ≤ 1000000) : Calls Tryz.prog 29 #[v] w fun e w' => e = .returned (.bool true) ∧ Below w.heap.size w w' := by
 obtain ⟨la, lc, rfl⟩ := hr.form
 have HR := Keep.mk hr
 have HPw := Keep.mk hp
 have HN := Keep.mk hn
 clear hr hp hn
 go_enter Tryz.func29, Tryz.ntmps29
 refine wp_seq_k fun K1 hK1 => rgn ?_
 refine VbF ?_
 refine WL.nil (hK1 _ _ ?_)
 refine wp_seq_k fun K2 hK2 => ?_
 refine wp_seq_k fun K3 hK3 => rgn ?_
 refine VlS (.int .i64 1) ?_
 refine WL.nil (hK3 _ _ ?_)
 refine wp_block ?_
 refine wp_loop (fun ac wr => ∃ (t : Nat) (f : Nat → Value), ac = { tmps := #[.slice la l.length lc, undef, .bool false, .int .i64 ((t + 1 : Nat) : Int), f 4, f 5, f 6, f 7, f 8, f 9, f 10, f 11, f 12, f 13, f 14, f 15, f 16, f 17, f 18, f 19, f 20], defers := [] } ∧ Below w.heap.size w wr) (fun a _ => l.length - (intOf (a.tmps.getD 3 undef)).toNat) ⟨0, fun zz => [.slice la l.length lc, undef, .bool false, .int .i64 1, undef, undef, undef, undef, undef, undef, undef, undef, undef, undef, undef, undef, undef, undef, undef, undef, undef].getD zz undef, rfl, Below.refl _ _⟩ ?_
 rintro ac wr ⟨t, f, rfl, hB⟩
 have JB := Keep.mk hB
 clear hB
 obtain ⟨k, hk⟩ : ∃ k : Nat, Keep (k = t + 1) := ⟨_, ⟨rfl⟩⟩
 rw [← hk.out]
 by_cases hkl : k < l.length
 ·have hkl' : (k : Int) < (l.length : Int) := by omega
  have hk0 : (0 : Int) ≤ (k : Int) := by omega
  have hwk : IntKind.i64.wrap ((k : Int) + 1) = ((t + 1 + 1 : Nat) : Int) := by rw [IntKind.wrap_i64]; have := HN.out; have := hk.out; omega
  have hwm : IntKind.i64.wrap ((k : Int) - 1) = (t : Int) := by rw [IntKind.wrap_i64]; have := HN.out; have := hk.out; omega
  have htl : t < l.length := by have := hk.out; omega
  have htl' : (t : Int) < (l.length : Int) := by omega
  have ht0 : (0 : Int) ≤ (t : Int) := by omega
  obtain ⟨pb, po, hpa, hpr⟩ := hrow_at (HR.out.below JB.out) hkl
  have hpr2 := hrow_at (HR.out.below JB.out) htl
  subst hpa
  obtain ⟨pb', po', hpa', hpr2⟩ := hpr2
  injection hpa' with hpa'
  injection hpa' with e1 e2
  subst e1 e2
  obtain ⟨y, hy⟩ : ∃ h : Hs, Keep (h = l[k]) := ⟨_, ⟨rfl⟩⟩
  obtain ⟨x, hx⟩ : ∃ h : Hs, Keep (h = l[t]) := ⟨_, ⟨rfl⟩⟩
  rw [← hy.out] at hpr
  rw [← hx.out] at hpr2
  have HPr := Keep.mk hpr
  have HPr2 := Keep.mk hpr2
  clear hpr hpr2
  have hxy : Lt x y := by rw [hx.out, hy.out]; exact List.pairwise_iff_getElem.1 HPw.out t k htl hkl (by have := hk.out; omega)
  obtain ⟨cc, hcc⟩ : ∃ c, Keep (cf x y = c) := ⟨_, ⟨rfl⟩⟩
  have hc0 : ¬ (0 ≤ cc) := by have h := hxy; unfold Lt at h; rw [hcc.out] at h; omega
  have hlt : Keep (pb < wr.heap.size) := ⟨by
   obtain ⟨b, off, e, _, _, h3⟩ := (HR.out.below JB.out).at (by omega)
   cases e
   exact rangeAt_lt h3 (by omega)⟩
  clear hxy
  refine wp_seq_k fun K4 hK4 => ?_
  refine wp_seq_k fun K5 hK5 => rgn ?_
  refine VlS (.int .i64 (k : Int)) ?_
  refine VlS (.slice (some ⟨pb, po, none⟩) l.length lc) ?_
  refine VlS (.int .i64 (l.length : Int)) ?_
  refine VbT ?_
  refine WL.nil (hK5 _ _ ?_)
  refine wp_cond_true rfl ?_
  refine wp_skip ?_
  refine hK4 _ _ ?_
  refine wp_seq_k fun K6 hK6 => ?_
  refine wp_block ?_
  refine wp_seq_k fun K7 hK7 => ?_
  have hSS : Keep (∀ wz, Below wr.heap.size wr wz → (fun wz => wz.rangeAt pb (po + t * 32) (bytesA 32 x.f).toList ∧ wz.rangeAt pb (po + k * 32) (bytesA 32 y.f).toList) wz) := ⟨fun wz hb => ⟨range_below HPr2.out hb hlt.out, range_below HPr.out hb hlt.out⟩⟩
  have hB0 : Keep (Below wr.heap.size wr wr.drew) := ⟨(Below.refl _ _).drew⟩
  refine wp_region_held_drew (S := fun wz => wz.rangeAt pb (po + t * 32) (bytesA 32 x.f).toList ∧ wz.rangeAt pb (po + k * 32) (bytesA 32 y.f).toList) (by kernel_rfl) (hSS.out _ hB0.out) (fun hHeld => ?_)
  refine TkC (i := 0) (oi := ⟨some 10, Op.move (Operand.tmp 0), 24, _, _, none⟩) (v := .slice (some ⟨pb, po, none⟩) l.length lc) rfl hHeld ?_
  refine TkC (i := 1) (oi := ⟨some 11, Op.move (Operand.tmp 3), 3, _, _, none⟩) (v := .int .i64 (k : Int)) rfl hHeld ?_
  refine TkC (i := 2) (oi := ⟨some 12, Op.binOp BinOp.sub 3 (Operand.tmp 11) (Operand.const (Value.int IntKind.i64 1)) 3, 3, _, _, none⟩) (v := .int .i64 (t : Int)) rfl hHeld ?_
  refine TkC (i := 3) (oi := ⟨some 13, Op.indexAddr 24 (Operand.tmp 10) (Operand.tmp 12), 0, _, _, none⟩) (v := .pointer (some ⟨pb, po + t * 32, none⟩)) rfl hHeld ?_
  refine tkS (i := 4) (oi := ⟨some 14, Op.load 36 (Operand.tmp 13), 36, _, _, none⟩) (v := .agg (bytesA 32 x.f)) rfl (yieldsIf_ld (by rfl) (Operand.tmp 13) 36 rfl pb (po + t * 32) rfl (bytesA 32 x.f) _ Tryz.underlying36 rfl (size36E _) fun w hS => hS.1) hHeld ?_
  refine TkC (i := 5) (oi := ⟨some 15, Op.move (Operand.tmp 0), 24, _, _, none⟩) (v := .slice (some ⟨pb, po, none⟩) l.length lc) rfl hHeld ?_
  refine TkC (i := 6) (oi := ⟨some 16, Op.move (Operand.tmp 3), 3, _, _, none⟩) (v := .int .i64 (k : Int)) rfl hHeld ?_
  refine TkC (i := 7) (oi := ⟨some 17, Op.indexAddr 24 (Operand.tmp 15) (Operand.tmp 16), 0, _, _, none⟩) (v := .pointer (some ⟨pb, po + k * 32, none⟩)) rfl hHeld ?_
  refine tkS (i := 8) (oi := ⟨some 18, Op.load 36 (Operand.tmp 17), 36, _, _, none⟩) (v := .agg (bytesA 32 y.f)) rfl (yieldsIf_ld (by rfl) (Operand.tmp 17) 36 rfl pb (po + k * 32) rfl (bytesA 32 y.f) _ Tryz.underlying36 rfl (size36E _) fun w hS => hS.2) hHeld ?_
  refine wpAnyH_ready (rs := [9]) (by kernel_rfl) (by simp) ?_
  refine AllReadyH.cons (o := ⟨some 19, Op.call { callee := Callee.value (Operand.func 21), args := #[Operand.tmp 14, Operand.tmp 18], argTypes := #[36, 36] }, 3, _, _, none⟩) rfl (fun K hK => ?_) AllReadyH.nil
  rw [if_pos (by rfl)]
  refine wp_callF 21 _ _ rfl Tryz.in21 #[.agg (bytesA 32 x.f), .agg (bytesA 32 y.f)] (by simp [Act.eval]) (fun uu w' => uu = .int .i64 cc ∧ Below wr.drew.heap.size wr.drew w') ((Nd.Sh.refCompare_any x y wr.drew).mono fun e w' h => ⟨_, h.1, congrArg (Value.int .i64) hcc.out, by obtain ⟨q, os, e⟩ := h.2; rw [e]; exact grow_below _ _ _⟩) ?_
  rintro _ wt ⟨rfl, hbt⟩
  have hB1 : Keep (Below wr.heap.size wr wt) := ⟨belowC hB0.out hbt⟩
  refine hK _ _ (hSS.out _ hB1.out) fun hH1 => ?_
  clear hK hbt
  simp only [Act.put, pqA, pqB, pqC]
  refine TkC (i := 10) (oi := ⟨some 20, Op.binOp BinOp.geq 3 (Operand.tmp 19) (Operand.const (Value.int IntKind.i64 0)) 3, 4, _, _, none⟩) (v := .bool false) rfl hH1 ?_
  refine wpAnyH_done (by kernel_rfl) ?_ _
  refine hK7 _ _ ?_
  refine wp_cond_false rfl ?_
  refine wp_skip ?_
  refine hK6 _ _ ?_
  refine rgn ?_
  refine VlS (.int .i64 (k : Int)) ?_
  refine VlS (.int .i64 ((t + 1 + 1 : Nat) : Int)) ?_
  refine VlS (.int .i64 ((t + 1 + 1 : Nat) : Int)) ?_
  refine WL.nil ?_
  refine ⟨⟨t + 1, fun zz => [.slice (some ⟨pb, po, none⟩) l.length lc, undef, .bool false, .int .i64 ((t + 1 + 1 : Nat) : Int), .int .i64 (k : Int), .slice (some ⟨pb, po, none⟩) l.length lc, .int .i64 (l.length : Int), .bool true, .int .i64 (k : Int), .int .i64 ((t + 1 + 1 : Nat) : Int), .slice (some ⟨pb, po, none⟩) l.length lc, .int .i64 (k : Int), .int .i64 (t : Int), .pointer (some ⟨pb, po + t * 32, none⟩), .agg (bytesA 32 x.f), .slice (some ⟨pb, po, none⟩) l.length lc, .int .i64 (k : Int), .pointer (some ⟨pb, po + k * 32, none⟩), .agg (bytesA 32 y.f), .int .i64 cc, .bool false].getD zz undef, rfl, belowC JB.out hB1.out⟩, by simp [intOf]; have := hk.out; omega⟩
 ·refine wp_seq_k fun K8 hK8 => ?_
  refine wp_seq_k fun K9 hK9 => rgn ?_
  refine VlS (.int .i64 (k : Int)) ?_
  refine VlS (.slice la l.length lc) ?_
  refine VlS (.int .i64 (l.length : Int)) ?_
  refine VbF ?_
  refine WL.nil (hK9 _ _ ?_)
  refine wp_cond_false rfl ?_
  refine wp_exit ?_
  refine hK2 _ _ ?_
  refine wp_seq_k fun K10 hK10 => rgn ?_
  refine VbT ?_
  refine WL.nil (hK10 _ _ ?_)
  refine wp_ret ?_
  go_ret
  exact ⟨rfl, JB.out⟩
theorem bsH3 (x y z : Hs) (w : World) : (Instr.buildSlice 24 3 #[(0, .agg (bytesA 32 x.f)), (1, .agg (bytesA 32 y.f)), (2, .agg (bytesA 32 z.f))]).run Tryz.prog w = .ok (.slice (some ⟨w.heap.size, 0, none⟩) 3 3) (w.alloc (.cells (bytesA 32 x.f ++ bytesA 32 y.f ++ bytesA 32 z.f) 36)) := by kernel_rfl
theorem hrow_three {w : World} {g : Nat} {x y z : Hs} (h : Blk w g 36 (bytesA 32 x.f ++ bytesA 32 y.f ++ bytesA 32 z.f)) : HRow w (.slice (some ⟨g, 0, none⟩) 3 3) [x, y, z] :=
 HRow.mk rfl (Nat.le_refl _) (by
  rw [flatH_cons, flatH_cons, flatH_cons, flatH_nil, List.append_nil, encH, encH, encH]
  have e := blk_range h
  simpa using e)
def lastI (l : List Nat) : Nat → Int
 | 0 => -1
 | t + 1 => ((l.getD t 0 : Nat) : Int)
theorem lastI_lt {l : List Nat} (h : l.Pairwise (· < ·)) {t : Nat} (ht : t < l.length) : lastI l t < (l[t] : Int) := by
 cases t with
 | zero => show (-1 : Int) < _; omega
 | succ t =>
  show ((l.getD t 0 : Nat) : Int) < _
  rw [List.getD_eq_getElem?_getD, List.getElem?_eq_getElem (by omega), Option.getD_some]
  have := List.pairwise_iff_getElem.1 h t (t + 1) (by omega) ht (by omega)
  omega
theorem lastI_next {l : List Nat} {t n : Nat} (ht : t < l.length) (e : l[t] = n) : lastI l (t + 1) = (n : Int) := by
 show ((l.getD t 0 : Nat) : Int) = _
 rw [List.getD_eq_getElem?_getD, List.getElem?_eq_getElem ht, Option.getD_some, e]
set_option maxRecDepth 16000 in
set_option maxHeartbeats 8000000 in
theorem since_law {w : World} {p : Nat} {H : List EP} {S : List (Nat × List Nat)} {v : Value} {mb ub : Nat} (h : HisAt w p H S v mb ub) (a b : Hs) (ha : a ∈ idsE (exs H)) (hb : b ∈ idsE (exs H)) : Calls Tryz.prog 30 #[.pointer (some ⟨p, 0, none⟩), .agg (bytesA 32 a.f), .agg (bytesA 32 b.f)] w fun e w' => e = .returned (.bool true) ∧ Below w.heap.size w w' := by
 have HP := Keep.mk h
 have Ha := Keep.mk ha
 have Hb := Keep.mk hb
 have MA1 : Keep (∀ g ∈ [a], g ∈ idsE (exs H)) := ⟨fun g hg => by rw [List.mem_singleton.1 hg]; exact ha⟩
 have MB1 : Keep (∀ g ∈ [b], g ∈ idsE (exs H)) := ⟨fun g hg => by rw [List.mem_singleton.1 hg]; exact hb⟩
 have M31 : Keep (∀ g ∈ [b, a, b], g ∈ idsE (exs H)) := ⟨fun g hg => by
  rcases List.mem_cons.1 hg with h1 | hg
  ·rw [h1]; exact hb
  rcases List.mem_cons.1 hg with h1 | hg
  ·rw [h1]; exact ha
  rw [List.mem_singleton.1 hg]; exact hb⟩
 clear h ha hb
 go_enter Tryz.func30, Tryz.ntmps30
 refine wp_seq_k fun K1 hK1 => rgn ?_
 refine WL.box (by kernel_rfl) 36 (.tmp 1) rfl (bytesA 32 a.f) rfl ?_
 obtain ⟨w1, hwn⟩ : ∃ wx, Keep (wx = w.alloc (.cells (bytesA 32 a.f) 36)) := ⟨_, ⟨rfl⟩⟩
 rw [← hwn.out]
 have HA1 : Keep (Blk w1 w.heap.size 36 (bytesA 32 a.f)) := ⟨by rw [hwn.out]; exact Blk.new _ _ _⟩
 have L1 : Keep (Below w.heap.size w w1) := ⟨by rw [hwn.out]; exact below_new _ _⟩
 clear hwn
 simp only [Act.put, pqA, pqB, pqC]
 refine WL.box (by kernel_rfl) 36 (.tmp 2) rfl (bytesA 32 b.f) rfl ?_
 obtain ⟨w2, hwn⟩ : ∃ wx, Keep (wx = w1.alloc (.cells (bytesA 32 b.f) 36)) := ⟨_, ⟨rfl⟩⟩
 rw [← hwn.out]
 have HB2 : Keep (Blk w2 w1.heap.size 36 (bytesA 32 b.f)) := ⟨by rw [hwn.out]; exact Blk.new _ _ _⟩
 have L2 : Keep (Below w1.heap.size w1 w2) := ⟨by rw [hwn.out]; exact below_new _ _⟩
 clear hwn
 have HA2 := Keep.mk (HA1.out.below L2.out HA1.out.lt)
 have C2 := Keep.mk (belowC L1.out L2.out)
 obtain ⟨ga, hga⟩ : ∃ g, Keep (g = w.heap.size) := ⟨_, ⟨rfl⟩⟩
 obtain ⟨gb, hgb⟩ : ∃ g, Keep (g = w1.heap.size) := ⟨_, ⟨rfl⟩⟩
 rw [← hga.out] at HA2
 rw [← hgb.out] at HB2
 have HP2 := Keep.mk (HP.out.below C2.out)
 clear HA1 L1 L2
 simp only [Act.put, pqA, pqB, pqC]
 refine VbF ?_
 refine WL.nil (hK1 _ _ ?_)
 refine wp_seq_k fun K2 hK2 => ?_
 rw [← hga.out, ← hgb.out]
 clear hga hgb
 refine rgn ?_
 refine VlS (.pointer (some ⟨p, 0, none⟩)) ?_
 refine WL.row (by kernel_rfl) 36 (.tmp 4) rfl ga rfl 36 (bytesA 32 a.f) _ (HA2.out) Tryz.underlying36 rfl (size36E _) ?_
 simp only [Act.put, pqA, pqB, pqC]
 refine WL.bs (by kernel_rfl) 24 1 _ rfl #[(0, .agg (bytesA 32 a.f))] (by simp [Act.eval]) _ _ (bsH a w2) ?_
 obtain ⟨w3, hwf⟩ : ∃ wzz, Keep (wzz = w2.alloc (.cells (bytesA 32 a.f) 36)) := ⟨_, ⟨rfl⟩⟩
 rw [← hwf.out]
 have H3 : Keep (Blk w3 w2.heap.size 36 (bytesA 32 a.f)) := ⟨by rw [hwf.out]; exact Blk.new _ _ _⟩
 have L_w3 : Keep (Below w2.heap.size w2 w3) := ⟨by rw [hwf.out]; exact below_new _ _⟩
 clear hwf
 have D3 := Keep.mk L_w3.out
 simp only [Act.put, pqA, pqB, pqC]
 refine WL.row (by kernel_rfl) 36 (.tmp 5) rfl gb rfl 36 (bytesA 32 b.f) _ (HB2.out.below D3.out HB2.out.lt) Tryz.underlying36 rfl (size36E _) ?_
 simp only [Act.put, pqA, pqB, pqC]
 refine WL.bs (by kernel_rfl) 24 1 _ rfl #[(0, .agg (bytesA 32 b.f))] (by simp [Act.eval]) _ _ (bsH b w3) ?_
 obtain ⟨w4, hwf⟩ : ∃ wzz, Keep (wzz = w3.alloc (.cells (bytesA 32 b.f) 36)) := ⟨_, ⟨rfl⟩⟩
 rw [← hwf.out]
 have H4 : Keep (Blk w4 w3.heap.size 36 (bytesA 32 b.f)) := ⟨by rw [hwf.out]; exact Blk.new _ _ _⟩
 have L_w4 : Keep (Below w3.heap.size w3 w4) := ⟨by rw [hwf.out]; exact below_new _ _⟩
 clear hwf
 have H3b := Keep.mk (H3.out.below L_w4.out H3.out.lt)
 have D4 := Keep.mk (belowC D3.out L_w4.out)
 simp only [Act.put, pqA, pqB, pqC]
 refine WL.callF (by kernel_rfl) 45 _ _ rfl Tryz.in45 #[.pointer (some ⟨p, 0, none⟩), .slice (some ⟨w2.heap.size, 0, none⟩) 1 1, .slice (some ⟨w3.heap.size, 0, none⟩) 1 1] (by simp [Act.eval]) ?_
 refine (his_since (HP2.out.below D4.out) _ [a] (hrow_one H3b.out) (by simp) _ [b] (hrow_one H4.out) (by simp) MA1.out MB1.out).mono ?_
 rintro e w5 ⟨v5, rfl, h1, hb⟩
 refine ⟨_, rfl, ?_⟩
 obtain ⟨sl, hsl⟩ : ∃ l, Keep (sinL (exs H) (S.map (·.2)) [a] [b] = l) := ⟨_, ⟨rfl⟩⟩
 rw [hsl.out] at h1
 obtain ⟨va, vc, hv5⟩ := h1.sl
 rw [List.length_map] at hv5
 subst hv5
 have O5 := Keep.mk h1
 have D5 := Keep.mk (belowC D4.out hb)
 clear h1 hb H3 H3b H4 L_w3 L_w4
 have hsn : Keep (sl.length ≤ 4096) := ⟨by
  rw [← hsl.out]
  unfold sinL
  have h2 := List.length_filter_le (fun j => rch (exs H) (S.map (·.2)) [b] j && !rch (exs H) (S.map (·.2)) [a] j) (List.range (exs H).length)
  rw [List.length_range] at h2
  have := exs_len H
  have := HP.out.rd.n
  omega⟩
 simp only [Act.put, pqA, pqB, pqC]
 refine VlS (.tuple #[.slice va sl.length vc, .int .i64 0]) ?_
 refine VlS (.slice va sl.length vc) ?_
 refine VlS (.int .i64 0) ?_
 refine VlS (.slice va sl.length vc) ?_
 refine VlS (.int .i64 0) ?_
 refine WL.nil (hK2 _ _ ?_)
 refine wp_seq_k fun K3 hK3 => rgn ?_
 refine VlS (.pointer (some ⟨p, 0, none⟩)) ?_
 refine WL.row (by kernel_rfl) 36 (.tmp 4) rfl ga rfl 36 (bytesA 32 a.f) _ (HA2.out.below D5.out HA2.out.lt) Tryz.underlying36 rfl (size36E _) ?_
 simp only [Act.put, pqA, pqB, pqC]
 refine WL.bs (by kernel_rfl) 24 1 _ rfl #[(0, .agg (bytesA 32 a.f))] (by simp [Act.eval]) _ _ (bsH a w5) ?_
 obtain ⟨w6, hwf⟩ : ∃ wzz, Keep (wzz = w5.alloc (.cells (bytesA 32 a.f) 36)) := ⟨_, ⟨rfl⟩⟩
 rw [← hwf.out]
 have H6 : Keep (Blk w6 w5.heap.size 36 (bytesA 32 a.f)) := ⟨by rw [hwf.out]; exact Blk.new _ _ _⟩
 have L_w6 : Keep (Below w5.heap.size w5 w6) := ⟨by rw [hwf.out]; exact below_new _ _⟩
 clear hwf
 have D6 := Keep.mk (belowC D5.out L_w6.out)
 have O6 := Keep.mk (O5.out.below L_w6.out)
 simp only [Act.put, pqA, pqB, pqC]
 refine WL.callF (by kernel_rfl) 23 _ _ rfl Tryz.in23 #[.pointer (some ⟨p, 0, none⟩), .slice (some ⟨w5.heap.size, 0, none⟩) 1 1] (by simp [Act.eval]) ?_
 refine (his_at (HP2.out.below D6.out) _ [a] (hrow_one H6.out) (by simp)).mono ?_
 rintro e w7 ⟨hb, ⟨⟨g, hg, hgn⟩, -⟩ | ⟨-, q1, K1_, R1_, x1, m1, u1_, rfl, hK, hE⟩⟩
 ·exact absurd (MA1.out g hg) hgn
 refine ⟨_, rfl, ?_⟩
 have HQ7 := Keep.mk hK
 have HE1 := Keep.mk hE
 have O7 := Keep.mk (O6.out.below hb)
 have D7 := Keep.mk (belowC D6.out hb)
 clear hb hK hE H6 L_w6
 simp only [Act.put, pqA, pqB, pqC]
 refine VlS (.tuple #[.pointer (some ⟨q1, 0, none⟩), .int .i64 0]) ?_
 refine VlS (.pointer (some ⟨q1, 0, none⟩)) ?_
 refine VlS (.int .i64 0) ?_
 refine VlS (.pointer (some ⟨q1, 0, none⟩)) ?_
 refine VlS (.int .i64 0) ?_
 refine WL.nil (hK3 _ _ ?_)
 refine wp_seq_k fun K4 hK4 => rgn ?_
 refine VlS (.pointer (some ⟨p, 0, none⟩)) ?_
 refine WL.row (by kernel_rfl) 36 (.tmp 5) rfl gb rfl 36 (bytesA 32 b.f) _ (HB2.out.below D7.out HB2.out.lt) Tryz.underlying36 rfl (size36E _) ?_
 simp only [Act.put, pqA, pqB, pqC]
 refine WL.row (by kernel_rfl) 36 (.tmp 4) rfl ga rfl 36 (bytesA 32 a.f) _ (HA2.out.below D7.out HA2.out.lt) Tryz.underlying36 rfl (size36E _) ?_
 simp only [Act.put, pqA, pqB, pqC]
 refine WL.row (by kernel_rfl) 36 (.tmp 5) rfl gb rfl 36 (bytesA 32 b.f) _ (HB2.out.below D7.out HB2.out.lt) Tryz.underlying36 rfl (size36E _) ?_
 simp only [Act.put, pqA, pqB, pqC]
 refine WL.bs (by kernel_rfl) 24 3 _ rfl #[(0, .agg (bytesA 32 b.f)), (1, .agg (bytesA 32 a.f)), (2, .agg (bytesA 32 b.f))] (by simp [Act.eval]) _ _ (bsH3 b a b w7) ?_
 obtain ⟨w8, hwf⟩ : ∃ wx, Keep (wx = w7.alloc (.cells (bytesA 32 b.f ++ bytesA 32 a.f ++ bytesA 32 b.f) 36)) := ⟨_, ⟨rfl⟩⟩
 rw [← hwf.out]
 have H8 : Keep (Blk w8 w7.heap.size 36 (bytesA 32 b.f ++ bytesA 32 a.f ++ bytesA 32 b.f)) := ⟨by rw [hwf.out]; exact Blk.new _ _ _⟩
 have L8 : Keep (Below w7.heap.size w7 w8) := ⟨by rw [hwf.out]; exact below_new _ _⟩
 clear hwf
 have D8 := Keep.mk (belowC D7.out L8.out)
 have O8 := Keep.mk (O7.out.below L8.out)
 have HQ8 := Keep.mk (HQ7.out.below L8.out)
 simp only [Act.put, pqA, pqB, pqC]
 refine WL.callF (by kernel_rfl) 23 _ _ rfl Tryz.in23 #[.pointer (some ⟨p, 0, none⟩), .slice (some ⟨w7.heap.size, 0, none⟩) 3 3] (by simp [Act.eval]) ?_
 refine (his_at (HP2.out.below D8.out) _ [b, a, b] (hrow_three H8.out) (by simp)).mono ?_
 rintro e w9 ⟨hb, ⟨⟨g, hg, hgn⟩, -⟩ | ⟨-, q2, K2_, R2_, x2, m2, u2_, rfl, hK, hE⟩⟩
 ·exact absurd (M31.out g hg) hgn
 refine ⟨_, rfl, ?_⟩
 have HT9 := Keep.mk hK
 have HE2 := Keep.mk hE
 have HQ9 := Keep.mk (HQ8.out.below hb)
 have O9 := Keep.mk (O8.out.below hb)
 have D9 := Keep.mk (belowC D8.out hb)
 clear hb hK hE H8 L8
 have hsum : Keep (sl.length + K1_.length = K2_.length) := ⟨by have h := since_len (X := exs H) (U := S.map (·.2)) a b; rw [hsl.out, ← HE1.out, ← HE2.out, exs_len, exs_len] at h; exact h⟩
 have hws : IntKind.i64.wrap ((sl.length : Int) + (K1_.length : Int)) = (K2_.length : Int) := by rw [IntKind.wrap_i64]; have := hsum.out; have := HT9.out.rd.n; omega
 simp only [Act.put, pqA, pqB, pqC]
 refine VlS (.tuple #[.pointer (some ⟨q2, 0, none⟩), .int .i64 0]) ?_
 refine VlS (.pointer (some ⟨q2, 0, none⟩)) ?_
 refine VlS (.int .i64 0) ?_
 refine VlS (.pointer (some ⟨q2, 0, none⟩)) ?_
 refine VlS (.int .i64 0) ?_
 refine WL.nil (hK4 _ _ ?_)
 refine wp_seq_k fun K5 hK5 => ?_
 refine wp_seq_k fun K6 hK6 => rgn ?_
 refine VlS (.int .i64 0) ?_
 refine VbF ?_
 refine VbF ?_
 refine VlS (.int .i64 0) ?_
 refine VbF ?_
 refine VbF ?_
 refine VbF ?_
 refine VlS (.int .i64 0) ?_
 refine VbF ?_
 refine VbF ?_
 refine VbF ?_
 refine VlS (.pointer (some ⟨q1, 0, none⟩)) ?_
 refine VbF ?_
 refine VbF ?_
 refine VbF ?_
 refine VlS (.pointer (some ⟨q2, 0, none⟩)) ?_
 refine VbF ?_
 refine VbF ?_
 refine VbF ?_
 refine VlS (.slice va sl.length vc) ?_
 refine VlS (.int .i64 (sl.length : Int)) ?_
 refine VlS (.pointer (some ⟨q1, 0, none⟩)) ?_
 refine WL.callF (by kernel_rfl) 18 _ _ rfl Tryz.in18 #[.pointer (some ⟨q1, 0, none⟩)] (by simp [Act.eval]) ?_
 refine (plen_any K1_ R1_ x1 q1 m1 u1_ w9 HQ9.out.rd).mono ?_
 rintro e wq ⟨rfl, hwq⟩
 refine ⟨_, rfl, ?_⟩
 rw [hwq]
 clear hwq
 simp only [Act.put, pqA, pqB, pqC]
 refine VlS (.int .i64 (K2_.length : Int)) ?_
 refine VlS (.pointer (some ⟨q2, 0, none⟩)) ?_
 refine WL.callF (by kernel_rfl) 18 _ _ rfl Tryz.in18 #[.pointer (some ⟨q2, 0, none⟩)] (by simp [Act.eval]) ?_
 refine (plen_any K2_ R2_ x2 q2 m2 u2_ w9 HT9.out.rd).mono ?_
 rintro e wq ⟨rfl, hwq⟩
 refine ⟨_, rfl, ?_⟩
 rw [hwq]
 clear hwq
 simp only [Act.put, pqA, pqB, pqC]
 refine VbF ?_
 refine VbF ?_
 refine WL.nil (hK6 _ _ ?_)
 refine wp_cond_false rfl ?_
 refine wp_skip ?_
 refine hK5 _ _ ?_
 refine wp_seq_k fun K7 hK7 => rgn ?_
 refine VlS (.int .i64 (-1)) ?_
 refine WL.nil (hK7 _ _ ?_)
 refine wp_seq_k fun K8 hK8 => ?_
 refine wp_seq_k fun K9 hK9 => rgn ?_
 refine VlS (.slice va sl.length vc) ?_
 refine VlS (.int .i64 (sl.length : Int)) ?_
 refine VlS (.int .i64 0) ?_
 refine WL.nil (hK9 _ _ ?_)
 refine wp_block ?_
 refine wp_loop (fun ac wr => ∃ (t : Nat) (f : Nat → Value), ac = { tmps := #[.pointer (some ⟨p, 0, none⟩), .agg (bytesA 32 a.f), .agg (bytesA 32 b.f), undef, .pointer (some ⟨ga, 0, none⟩), .pointer (some ⟨gb, 0, none⟩), .bool false, .slice va sl.length vc, .int .i64 0, .pointer (some ⟨q1, 0, none⟩), .int .i64 0, .pointer (some ⟨q2, 0, none⟩), .int .i64 0, .int .i64 (lastI sl t), undef, f 15, f 16, undef, .tuple #[.slice va sl.length vc, .int .i64 0], .pointer (some ⟨p, 0, none⟩), .agg (bytesA 32 a.f), .slice (some ⟨w2.heap.size, 0, none⟩) 1 1, .agg (bytesA 32 b.f), .slice (some ⟨w3.heap.size, 0, none⟩) 1 1, .tuple #[.slice va sl.length vc, .int .i64 0], .slice va sl.length vc, .int .i64 0, .tuple #[.pointer (some ⟨q1, 0, none⟩), .int .i64 0], .pointer (some ⟨p, 0, none⟩), .agg (bytesA 32 a.f), .slice (some ⟨w5.heap.size, 0, none⟩) 1 1, .tuple #[.pointer (some ⟨q1, 0, none⟩), .int .i64 0], .pointer (some ⟨q1, 0, none⟩), .int .i64 0, .tuple #[.pointer (some ⟨q2, 0, none⟩), .int .i64 0], .pointer (some ⟨p, 0, none⟩), .agg (bytesA 32 b.f), .agg (bytesA 32 a.f), .agg (bytesA 32 b.f), .slice (some ⟨w7.heap.size, 0, none⟩) 3 3, .tuple #[.pointer (some ⟨q2, 0, none⟩), .int .i64 0], .pointer (some ⟨q2, 0, none⟩), .int .i64 0, .int .i64 0, .bool false, .bool false, .int .i64 0, .bool false, .bool false, .bool false, .int .i64 0, .bool false, .bool false, .bool false, .pointer (some ⟨q1, 0, none⟩), .bool false, .bool false, .bool false, .pointer (some ⟨q2, 0, none⟩), .bool false, .bool false, .bool false, .slice va sl.length vc, .int .i64 (sl.length : Int), .pointer (some ⟨q1, 0, none⟩), .int .i64 (K1_.length : Int), .int .i64 (K2_.length : Int), .pointer (some ⟨q2, 0, none⟩), .int .i64 (K2_.length : Int), .bool false, .bool false, .slice va sl.length vc, .int .i64 (sl.length : Int), .int .i64 (t : Int), f 74, f 75, f 76, f 77, f 78, f 79, f 80, f 81, f 82, f 83, f 84, f 85, f 86, f 87, f 88, f 89, f 90, f 91, f 92, f 93, f 94, f 95, f 96, undef, undef, undef, undef, undef, undef, undef, undef, undef, undef, undef, undef, undef, undef, undef, undef], defers := [] } ∧ t ≤ sl.length ∧ Below w9.heap.size w9 wr) (fun a _ => sl.length - (intOf (a.tmps.getD 73 undef)).toNat) ⟨0, fun zz => [.pointer (some ⟨p, 0, none⟩), .agg (bytesA 32 a.f), .agg (bytesA 32 b.f), undef, .pointer (some ⟨ga, 0, none⟩), .pointer (some ⟨gb, 0, none⟩), .bool false, .slice va sl.length vc, .int .i64 0, .pointer (some ⟨q1, 0, none⟩), .int .i64 0, .pointer (some ⟨q2, 0, none⟩), .int .i64 0, .int .i64 (-1), undef, undef, undef, undef, .tuple #[.slice va sl.length vc, .int .i64 0], .pointer (some ⟨p, 0, none⟩), .agg (bytesA 32 a.f), .slice (some ⟨w2.heap.size, 0, none⟩) 1 1, .agg (bytesA 32 b.f), .slice (some ⟨w3.heap.size, 0, none⟩) 1 1, .tuple #[.slice va sl.length vc, .int .i64 0], .slice va sl.length vc, .int .i64 0, .tuple #[.pointer (some ⟨q1, 0, none⟩), .int .i64 0], .pointer (some ⟨p, 0, none⟩), .agg (bytesA 32 a.f), .slice (some ⟨w5.heap.size, 0, none⟩) 1 1, .tuple #[.pointer (some ⟨q1, 0, none⟩), .int .i64 0], .pointer (some ⟨q1, 0, none⟩), .int .i64 0, .tuple #[.pointer (some ⟨q2, 0, none⟩), .int .i64 0], .pointer (some ⟨p, 0, none⟩), .agg (bytesA 32 b.f), .agg (bytesA 32 a.f), .agg (bytesA 32 b.f), .slice (some ⟨w7.heap.size, 0, none⟩) 3 3, .tuple #[.pointer (some ⟨q2, 0, none⟩), .int .i64 0], .pointer (some ⟨q2, 0, none⟩), .int .i64 0, .int .i64 0, .bool false, .bool false, .int .i64 0, .bool false, .bool false, .bool false, .int .i64 0, .bool false, .bool false, .bool false, .pointer (some ⟨q1, 0, none⟩), .bool false, .bool false, .bool false, .pointer (some ⟨q2, 0, none⟩), .bool false, .bool false, .bool false, .slice va sl.length vc, .int .i64 (sl.length : Int), .pointer (some ⟨q1, 0, none⟩), .int .i64 (K1_.length : Int), .int .i64 (K2_.length : Int), .pointer (some ⟨q2, 0, none⟩), .int .i64 (K2_.length : Int), .bool false, .bool false, .slice va sl.length vc, .int .i64 (sl.length : Int), .int .i64 0, undef, undef, undef, undef, undef, undef, undef, undef, undef, undef, undef, undef, undef, undef, undef, undef, undef, undef, undef, undef, undef, undef, undef, undef, undef, undef, undef, undef, undef, undef, undef, undef, undef, undef, undef, undef, undef, undef, undef].getD zz undef, rfl, by omega, Below.refl _ _⟩ ?_
 rintro ac wr ⟨t, f, rfl, ht, hB⟩
 have JB := Keep.mk hB
 clear hB
 obtain ⟨lv, hlv⟩ : ∃ k, Keep (lastI sl t = k) := ⟨_, ⟨rfl⟩⟩
 rw [hlv.out]
 by_cases htl : t < sl.length
 ·have htl' : (t : Int) < (sl.length : Int) := by omega
  have ht0 : (0 : Int) ≤ (t : Int) := by omega
  have hwt : IntKind.i64.wrap ((t : Int) + 1) = ((t + 1 : Nat) : Int) := by rw [IntKind.wrap_i64]; have := hsn.out; omega
  obtain ⟨n, hn⟩ : ∃ n, Keep (sl[t] = n) := ⟨_, ⟨rfl⟩⟩
  have hmem : Keep (n < (exs H).length ∧ rch (exs H) (S.map (·.2)) [b] n = true ∧ rch (exs H) (S.map (·.2)) [a] n = false) := ⟨by have h := List.getElem_mem htl; rw [hn.out] at h; rw [← hsl.out] at h; exact sinL_mem.1 h⟩
  have hgt : ¬ ((n : Int) ≤ lv) := by have h := lastI_lt (by rw [← hsl.out]; exact sinL_lt _ _ _ _) htl; rw [hlv.out, hn.out] at h; omega
  have hnx : Keep (lastI sl (t + 1) = (n : Int)) := ⟨lastI_next htl hn.out⟩
  have htm : t < (sl.map (idAt H)).length := by rw [List.length_map]; exact htl
  have hrr := (O9.out.below JB.out).row
  obtain ⟨pb, po, hpa, hpr⟩ := hrow_at hrr htm
  clear hrr
  subst hpa
  obtain ⟨h, hh⟩ : ∃ h : Hs, Keep (h = idAt H n) := ⟨_, ⟨rfl⟩⟩
  rw [List.getElem_map, hn.out, ← hh.out] at hpr
  have HPr := Keep.mk hpr
  clear hpr
  have hhm : Keep (h ∈ idsE (exs H)) := ⟨by rw [hh.out]; exact idAt_mem hmem.out.1⟩
  have hix : Keep (ixH (idsE (exs H)) h = n) := ⟨by rw [hh.out]; exact idAt_ix HP.out.hst.nd hmem.out.1⟩
  have hnum : Keep (numV (idsE (exs H)) h = (n : Int)) := ⟨num_of hix.out (by rw [idsE_len]; exact hmem.out.1)⟩
  have hno : Keep (numV (idsE (exs K1_)) h = -1) := ⟨num_out (by rw [HE1.out]; intro hc; have := ((prt_mem HP.out.hst.nd).1 hc).2; rw [hix.out, hmem.out.2.2] at this; cases this)⟩
  obtain ⟨nv, hnv⟩ : ∃ k, Keep (numV (idsE (exs K2_)) h = k) := ⟨_, ⟨rfl⟩⟩
  have hnv0 : ¬ nv < 0 := by rw [← hnv.out]; have := num_in (ids := idsE (exs K2_)) (h := h) (by rw [HE2.out]; refine (prt_mem HP.out.hst.nd).2 ⟨hhm.out, ?_⟩; rw [hix.out, rch, List.any_cons]; have h2 := hmem.out.2.1; rw [rch_one] at h2; rw [h2]; rfl); omega
  refine wp_seq_k fun K10 hK10 => rgn ?_
  refine VbT ?_
  refine WL.nil (hK10 _ _ ?_)
  refine wp_seq_k fun K11 hK11 => ?_
  refine wp_cond_true rfl ?_
  refine wp_skip ?_
  refine hK11 _ _ ?_
  refine wp_seq_k fun K12 hK12 => ?_
  refine wp_block ?_
  refine wp_seq_k fun K13 hK13 => rgn ?_
  refine VlS (.pointer (some ⟨pb, po + t * 32, none⟩)) ?_
  refine WL.midA (by kernel_rfl) 36 (.tmp 75) rfl pb (po + t * 32) rfl (bytesA 32 h.f) _ HPr.out Tryz.underlying36 rfl (size36E _) ?_
  simp only [Act.put, pqA, pqB, pqC]
  refine WL.new (by kernel_rfl) 36 rfl (bytesA 32 fun _ => 0) Tryz.new36 ?_
  obtain ⟨wc, hwn⟩ : ∃ wx, Keep (wx = wr.alloc (.cells (bytesA 32 fun _ => 0) 36)) := ⟨_, ⟨rfl⟩⟩
  rw [← hwn.out]
  have HZ2 : Keep (Blk wc wr.heap.size 36 (bytesA 32 fun _ => 0)) := ⟨by rw [hwn.out]; exact Blk.new _ _ _⟩
  have LB2 : Keep (Below wr.heap.size wr wc) := ⟨by rw [hwn.out]; exact below_new _ _⟩
  clear hwn
  simp only [Act.put, pqA, pqB, pqC]
  refine WL.storeR (by kernel_rfl) 36 (.tmp 15) (.tmp 76) rfl wr.heap.size (bytesA 32 h.f) rfl rfl 36 _ HZ2.out (size36E _) (by rw [bytesA_size, bytesA_size]) (bytesA_one _ _) ?_
  have HH2 := Keep.mk (HZ2.out.setRow (bytesA 32 h.f))
  have LH : Keep (Below wr.heap.size wr (wc.setRow wr.heap.size (bytesA 32 h.f))) := ⟨below_setRow LB2.out (Nat.le_refl _) _⟩
  generalize wc.setRow wr.heap.size (bytesA 32 h.f) = wd at *
  clear HZ2 LB2
  have JBd := Keep.mk (belowC JB.out LH.out)
  generalize wr.heap.size = g2 at *
  clear LH HPr
  simp only [Act.put]
  refine WL.nil (hK13 _ _ ?_)
  refine wp_seq_k fun K14 hK14 => rgn ?_
  refine VlS (.pointer (some ⟨p, 0, none⟩)) ?_
  refine WL.row (by kernel_rfl) 36 (.tmp 15) rfl g2 rfl 36 (bytesA 32 h.f) _ (HH2.out) Tryz.underlying36 rfl (size36E _) ?_
  simp only [Act.put, pqA, pqB, pqC]
  refine WL.callF (by kernel_rfl) 13 _ _ rfl Tryz.in13 #[.pointer (some ⟨p, 0, none⟩), .agg (bytesA 32 h.f)] (by simp [Act.eval]) ?_
  refine (number_any H S v p mb ub wd (HP2.out.rd.below (belowC D9.out JBd.out)) h).mono ?_
  rintro e we ⟨rfl, hb⟩
  refine ⟨_, rfl, ?_⟩
  rw [hnum.out]
  have JBe := Keep.mk (belowC JBd.out hb)
  have HHe := Keep.mk (HH2.out.below hb HH2.out.lt)
  clear hb
  simp only [Act.put, pqA, pqB, pqC]
  refine VlS (.int .i64 (n : Int)) ?_
  refine WL.nil (hK14 _ _ ?_)
  refine wp_seq_k fun K15 hK15 => ?_
  refine wp_seq_k fun K16 hK16 => rgn ?_
  refine VlS (.int .i64 (n : Int)) ?_
  refine VlS (.int .i64 lv) ?_
  refine VbF ?_
  refine VbF ?_
  refine VlS (.pointer (some ⟨q1, 0, none⟩)) ?_
  refine WL.row (by kernel_rfl) 36 (.tmp 15) rfl g2 rfl 36 (bytesA 32 h.f) _ (HHe.out) Tryz.underlying36 rfl (size36E _) ?_
  simp only [Act.put, pqA, pqB, pqC]
  refine WL.callF (by kernel_rfl) 13 _ _ rfl Tryz.in13 #[.pointer (some ⟨q1, 0, none⟩), .agg (bytesA 32 h.f)] (by simp [Act.eval]) ?_
  refine (number_any K1_ R1_ x1 q1 m1 u1_ we (HQ9.out.rd.below JBe.out) h).mono ?_
  rintro e wf ⟨rfl, hb⟩
  refine ⟨_, rfl, ?_⟩
  rw [hno.out]
  have JBf := Keep.mk (belowC JBe.out hb)
  have HHf := Keep.mk (HHe.out.below hb HHe.out.lt)
  clear hb
  simp only [Act.put, pqA, pqB, pqC]
  refine VbF ?_
  refine VbF ?_
  refine VbF ?_
  refine VlS (.pointer (some ⟨q2, 0, none⟩)) ?_
  refine WL.row (by kernel_rfl) 36 (.tmp 15) rfl g2 rfl 36 (bytesA 32 h.f) _ (HHf.out) Tryz.underlying36 rfl (size36E _) ?_
  simp only [Act.put, pqA, pqB, pqC]
  refine WL.callF (by kernel_rfl) 13 _ _ rfl Tryz.in13 #[.pointer (some ⟨q2, 0, none⟩), .agg (bytesA 32 h.f)] (by simp [Act.eval]) ?_
  refine (number_any K2_ R2_ x2 q2 m2 u2_ wf (HT9.out.rd.below JBf.out) h).mono ?_
  rintro e wg ⟨rfl, hb⟩
  refine ⟨_, rfl, ?_⟩
  rw [hnv.out]
  have JBg := Keep.mk (belowC JBf.out hb)
  clear hb
  simp only [Act.put, pqA, pqB, pqC]
  refine VbF ?_
  refine VbF ?_
  refine WL.nil (hK16 _ _ ?_)
  refine wp_cond_false rfl ?_
  refine wp_skip ?_
  refine hK15 _ _ ?_
  refine rgn ?_
  refine VlS (.int .i64 (n : Int)) ?_
  refine VlS (.int .i64 (n : Int)) ?_
  refine WL.nil (hK12 _ _ ?_)
  refine rgn ?_
  refine VlS (.int .i64 ((t + 1 : Nat) : Int)) ?_
  refine VlS (.int .i64 ((t + 1 : Nat) : Int)) ?_
  refine WL.nil ?_
  refine ⟨⟨t + 1, fun zz => [.pointer (some ⟨p, 0, none⟩), .agg (bytesA 32 a.f), .agg (bytesA 32 b.f), undef, .pointer (some ⟨ga, 0, none⟩), .pointer (some ⟨gb, 0, none⟩), .bool false, .slice (some ⟨pb, po, none⟩) sl.length vc, .int .i64 0, .pointer (some ⟨q1, 0, none⟩), .int .i64 0, .pointer (some ⟨q2, 0, none⟩), .int .i64 0, .int .i64 (n : Int), undef, .pointer (some ⟨g2, 0, none⟩), .int .i64 (n : Int), undef, .tuple #[.slice (some ⟨pb, po, none⟩) sl.length vc, .int .i64 0], .pointer (some ⟨p, 0, none⟩), .agg (bytesA 32 a.f), .slice (some ⟨w2.heap.size, 0, none⟩) 1 1, .agg (bytesA 32 b.f), .slice (some ⟨w3.heap.size, 0, none⟩) 1 1, .tuple #[.slice (some ⟨pb, po, none⟩) sl.length vc, .int .i64 0], .slice (some ⟨pb, po, none⟩) sl.length vc, .int .i64 0, .tuple #[.pointer (some ⟨q1, 0, none⟩), .int .i64 0], .pointer (some ⟨p, 0, none⟩), .agg (bytesA 32 a.f), .slice (some ⟨w5.heap.size, 0, none⟩) 1 1, .tuple #[.pointer (some ⟨q1, 0, none⟩), .int .i64 0], .pointer (some ⟨q1, 0, none⟩), .int .i64 0, .tuple #[.pointer (some ⟨q2, 0, none⟩), .int .i64 0], .pointer (some ⟨p, 0, none⟩), .agg (bytesA 32 b.f), .agg (bytesA 32 a.f), .agg (bytesA 32 b.f), .slice (some ⟨w7.heap.size, 0, none⟩) 3 3, .tuple #[.pointer (some ⟨q2, 0, none⟩), .int .i64 0], .pointer (some ⟨q2, 0, none⟩), .int .i64 0, .int .i64 0, .bool false, .bool false, .int .i64 0, .bool false, .bool false, .bool false, .int .i64 0, .bool false, .bool false, .bool false, .pointer (some ⟨q1, 0, none⟩), .bool false, .bool false, .bool false, .pointer (some ⟨q2, 0, none⟩), .bool false, .bool false, .bool false, .slice (some ⟨pb, po, none⟩) sl.length vc, .int .i64 (sl.length : Int), .pointer (some ⟨q1, 0, none⟩), .int .i64 (K1_.length : Int), .int .i64 (K2_.length : Int), .pointer (some ⟨q2, 0, none⟩), .int .i64 (K2_.length : Int), .bool false, .bool false, .slice (some ⟨pb, po, none⟩) sl.length vc, .int .i64 (sl.length : Int), .int .i64 ((t + 1 : Nat) : Int), .bool true, .pointer (some ⟨pb, po + t * 32, none⟩), .agg (bytesA 32 h.f), .pointer (some ⟨p, 0, none⟩), .agg (bytesA 32 h.f), .int .i64 (n : Int), .int .i64 (n : Int), .int .i64 lv, .bool false, .bool false, .pointer (some ⟨q1, 0, none⟩), .agg (bytesA 32 h.f), .int .i64 (-1), .bool false, .bool false, .bool false, .pointer (some ⟨q2, 0, none⟩), .agg (bytesA 32 h.f), .int .i64 nv, .bool false, .bool false, .int .i64 (n : Int), .int .i64 ((t + 1 : Nat) : Int), undef, undef, undef, undef, undef, undef, undef, undef, undef, undef, undef, undef, undef, undef, undef, undef].getD zz undef, by first | (rw [hnx.out]; done) | (rw [hnx.out]; rfl), by omega, JBg.out⟩, by simp [intOf]; omega⟩
 ·have DX := Keep.mk (belowC D9.out JB.out)
  refine wp_seq_k fun K17 hK17 => rgn ?_
  refine VbF ?_
  refine WL.nil (hK17 _ _ ?_)
  refine wp_seq_k fun K18 hK18 => ?_
  refine wp_cond_false rfl ?_
  refine wp_exit ?_
  refine hK8 _ _ ?_
  refine wp_seq_k fun K19 hK19 => rgn ?_
  refine VlS (.pointer (some ⟨p, 0, none⟩)) ?_
  refine WL.row (by kernel_rfl) 36 (.tmp 5) rfl gb rfl 36 (bytesA 32 b.f) _ (HB2.out.below DX.out HB2.out.lt) Tryz.underlying36 rfl (size36E _) ?_
  simp only [Act.put, pqA, pqB, pqC]
  refine WL.bs (by kernel_rfl) 24 1 _ rfl #[(0, .agg (bytesA 32 b.f))] (by simp [Act.eval]) _ _ (bsH b wr) ?_
  obtain ⟨wx, hwf⟩ : ∃ wzz, Keep (wzz = wr.alloc (.cells (bytesA 32 b.f) 36)) := ⟨_, ⟨rfl⟩⟩
  rw [← hwf.out]
  have HX : Keep (Blk wx wr.heap.size 36 (bytesA 32 b.f)) := ⟨by rw [hwf.out]; exact Blk.new _ _ _⟩
  have L_wx : Keep (Below wr.heap.size wr wx) := ⟨by rw [hwf.out]; exact below_new _ _⟩
  clear hwf
  have DX1 := Keep.mk (belowC DX.out L_wx.out)
  simp only [Act.put, pqA, pqB, pqC]
  refine WL.row (by kernel_rfl) 36 (.tmp 5) rfl gb rfl 36 (bytesA 32 b.f) _ (HB2.out.below DX1.out HB2.out.lt) Tryz.underlying36 rfl (size36E _) ?_
  simp only [Act.put, pqA, pqB, pqC]
  refine WL.bs (by kernel_rfl) 24 1 _ rfl #[(0, .agg (bytesA 32 b.f))] (by simp [Act.eval]) _ _ (bsH b wx) ?_
  obtain ⟨wy, hwf⟩ : ∃ wzz, Keep (wzz = wx.alloc (.cells (bytesA 32 b.f) 36)) := ⟨_, ⟨rfl⟩⟩
  rw [← hwf.out]
  have HY : Keep (Blk wy wx.heap.size 36 (bytesA 32 b.f)) := ⟨by rw [hwf.out]; exact Blk.new _ _ _⟩
  have L_wy : Keep (Below wx.heap.size wx wy) := ⟨by rw [hwf.out]; exact below_new _ _⟩
  clear hwf
  have HXb := Keep.mk (HX.out.below L_wy.out HX.out.lt)
  have DX2 := Keep.mk (belowC DX1.out L_wy.out)
  simp only [Act.put, pqA, pqB, pqC]
  refine WL.callF (by kernel_rfl) 45 _ _ rfl Tryz.in45 #[.pointer (some ⟨p, 0, none⟩), .slice (some ⟨wr.heap.size, 0, none⟩) 1 1, .slice (some ⟨wx.heap.size, 0, none⟩) 1 1] (by simp [Act.eval]) ?_
  refine (his_since (HP2.out.below DX2.out) _ [b] (hrow_one HXb.out) (by simp) _ [b] (hrow_one HY.out) (by simp) MB1.out MB1.out).mono ?_
  rintro e wz ⟨vz, rfl, h1, hb⟩
  refine ⟨_, rfl, ?_⟩
  rw [sinL_self] at h1
  obtain ⟨za, zc, hvz⟩ := h1.sl
  subst hvz
  have DZ := Keep.mk (belowC DX2.out hb)
  clear h1 hb
  simp only [List.map_nil, List.length_nil]
  simp only [Act.put, pqA, pqB, pqC]
  refine VlS (.tuple #[.slice za 0 zc, .int .i64 0]) ?_
  refine VlS (.slice za 0 zc) ?_
  refine VlS (.int .i64 0) ?_
  refine VlS (.slice za 0 zc) ?_
  refine VlS (.int .i64 0) ?_
  refine WL.nil (hK19 _ _ ?_)
  refine wp_seq_k fun K20 hK20 => rgn ?_
  refine VlS (.int .i64 0) ?_
  refine VbT ?_
  refine VbT ?_
  refine VlS (.slice za 0 zc) ?_
  refine VlS (.int .i64 0) ?_
  refine VbT ?_
  refine VbT ?_
  refine VbT ?_
  refine WL.nil (hK20 _ _ ?_)
  refine wp_ret ?_
  go_ret
  exact ⟨rfl, belowC C2.out DZ.out⟩
end Go.Proofs.YthlohkgdmfkpeaaGreat
