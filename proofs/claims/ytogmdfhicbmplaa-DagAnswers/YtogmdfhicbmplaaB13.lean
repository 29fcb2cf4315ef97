import Derived.Test.YtogmdfhicbmplaaB12
import Derived.Test.YtogmdfhicbmplaaB10
import Derived.Test.YtogmdfhicbmplaaB11
namespace Go.Proofs.Ytogmdfhicbmplaa
open Go.RowKit
set_option linter.unusedSimpArgs false
set_option linter.unusedVariables false

def encO (o : OP) : List Value := (opA o).toList
theorem encO_len (o : OP) : (encO o).length = 68 := by rw [encO, Array.length_toList, opA_size]
/-- v is a slice of these steps. -/
def ORow (w : World) (v : Value) (S : List OP) : Prop :=
 ((∃ a c, v = .slice a 0 c ∧ S = []) ∨ ∃ b off c, v = .slice (some ⟨b, off, none⟩) S.length c ∧ S.length ≤ c ∧ w.rangeAt b off (S.flatMap encO)) ∧ ∀ o ∈ S, HRow w o.q.2 o.q.1.ps ∧ o.q.1.ps.length ≤ 4398046511104
theorem ORow.form {w : World} {v : Value} {S : List OP} (h : ORow w v S) : ∃ a c, v = .slice a S.length c := by
 rcases h.1 with ⟨a, c, rfl, rfl⟩ | ⟨b, off, c, rfl, _⟩
 ·exact ⟨a, c, rfl⟩
 ·exact ⟨_, c, rfl⟩
theorem opA_k0 {w : World} {b off : Nat} {o : OP} (h : w.rangeAt b off (encO o)) : w.cell? ⟨b, off, none⟩ = some (.int .i64 o.k) := by
 have := h 0 (.int .i64 o.k) (by unfold encO opA; rw [Array.toList_append, Array.toList_append, List.append_assoc]; rfl)
 exact this
theorem ORow.at {w : World} {a : Option Addr} {n c : Nat} {S : List OP} (h : ORow w (.slice a n c) S) (hL : 0 < S.length) : ∃ b off, a = some ⟨b, off, none⟩ ∧ b < w.heap.size ∧ w.rangeAt b off (S.flatMap encO) := by
 rcases h.1 with ⟨a, c, _, rfl⟩ | ⟨b, off, c, e, h1, h2⟩
 ·simp at hL
 ·injection e with e1 e2 e3
  subst e1 e3
  exact ⟨b, off, rfl, cell_lt (opA_k0 (flat_elem encO_len h2 0 hL)), h2⟩
end Go.Proofs.Ytogmdfhicbmplaa
namespace Go.Proofs.Ytogmdfhicbmplaa
open Go.RowKit
set_option linter.unusedSimpArgs false
set_option linter.unusedVariables false

theorem Try.in72 (w : World) (vs : Array Value) : (callFunc 72 vs).run Try.prog w = .ok (.enter 72 vs) w := by kernel_rfl
theorem Try.in75 (w : World) (vs : Array Value) : (callFunc 75 vs).run Try.prog w = .ok (.enter 75 vs) w := by kernel_rfl
theorem ixF_at {x : Hs} : ∀ {l : List Hs} {t : Nat} (m : Nat) (hm : m < l.length), l[m] = x → (∀ k (hk : k < m), l[k] ≠ x) → ixF x l t = ((t + m : Nat) : Int)
 | [], _, m, hm, _, _ => absurd hm (Nat.not_lt_zero _)
 | y :: r, t, 0, _, e, _ => by rw [ixF, if_pos (by simpa using e.symm)]; rfl
 | y :: r, t, m + 1, hm, e, h => by
  have h0 := h 0 (by omega)
  rw [ixF, if_neg (by intro e; exact h0 (by simpa using e.symm)), ixF_at m (by simpa using hm) (by simpa using e) (fun k hk => by have := h (k + 1) (by omega); simpa using this)]
  congr 1
  omega
theorem ixF_no {x : Hs} : ∀ {l : List Hs} {t : Nat}, x ∉ l → ixF x l t = -1
 | [], _, _ => rfl
 | y :: r, t, h => by rw [ixF, if_neg (fun e => h (by simp [e])), ixF_no (fun e => h (by simp [e]))]
theorem ixF_inc {x : Hs} {l : List Hs} (hI : Inc l) (m : Nat) (hm : m < l.length) (e : l[m] = x) : ixF x l 0 = (m : Int) := by
 rw [ixF_at m hm e, Nat.zero_add]
 intro k hk e2
 have h := hI k m hk hm
 rw [List.getD_eq_getElem?_getD, List.getD_eq_getElem?_getD, List.getElem?_eq_getElem hm, List.getElem?_eq_getElem (by omega)] at h
 simp only [Option.getD_some] at h
 rw [e, e2] at h
 exact Lt.irrefl _ h
set_option maxRecDepth 8000 in
set_option maxHeartbeats 400000 in
theorem rplace_any (v : Value) (L : List VP) (x : Hs) (w : World) (hr : VRow w v L) (hL : L.length ≤ 4398046511104) : Calls Try.prog 72 #[v, .agg (bytesA 32 x.f)] w fun e w' => e = .returned (.int .i64 (ixF x (L.map fun q => q.1.id) 0)) ∧ Below w.heap.size w w' := by
 obtain ⟨pa, pc, rfl⟩ := hr.form
 have HR := Keep.mk hr
 have HL := Keep.mk hL
 clear hr hL
 go_enter Try.func72, Try.ntmps72
 refine wp_seq_k fun K1 hK1 => rgn ?_
 refine WL.box (by kernel_rfl) 36 (.tmp 1) rfl (bytesA 32 x.f) rfl ?_
 obtain ⟨w1, hwn⟩ : ∃ wx, Keep (wx = w.alloc (.cells (bytesA 32 x.f) 36)) := ⟨_, ⟨rfl⟩⟩
 rw [← hwn.out]
 have HX1 : Keep (Blk w1 w.heap.size 36 (bytesA 32 x.f)) := ⟨by rw [hwn.out]; exact Blk.new _ _ _⟩
 have LB1 : Keep (Below w.heap.size w w1) := ⟨by rw [hwn.out]; exact below_new _ _⟩
 clear hwn
 have HR1 := Keep.mk (HR.out.below LB1.out)
 simp only [Act.put, pqA, pqB, pqC]
 refine VlS (.int .i64 0) ?_
 refine WL.nil (hK1 _ _ ?_)
 refine wp_seq_k fun K2 hK2 => ?_
 refine wp_seq_k fun K3 hK3 => rgn ?_
 refine VlS (.int .i64 0) ?_
 refine WL.nil (hK3 _ _ ?_)
 refine wp_block ?_
 refine wp_loop (fun ac wr => ∃ (t : Nat) (u4 u6 u7 u8 u9 u10 u11 u12 u13 u14 u15 u16 u17 u18 u19 : Value), ac = { tmps := #[.slice pa L.length pc, .agg (bytesA 32 x.f), undef, .pointer (some ⟨w.heap.size, 0, none⟩), u4, .int .i64 (t : Int), u6, u7, u8, u9, u10, u11, u12, u13, u14, u15, u16, u17, u18, u19], defers := [] } ∧ t ≤ L.length ∧ ixF x (L.map fun q => q.1.id) 0 = ixF x ((L.drop t).map fun q => q.1.id) t ∧ Below w1.heap.size w1 wr) (fun a _ => L.length - (intOf (a.tmps.getD 5 undef)).toNat) ⟨0, .int .i64 0, undef, undef, undef, undef, undef, undef, undef, undef, undef, undef, undef, undef, undef, undef, rfl, by omega, rfl, Below.refl _ _⟩ ?_
 rintro ac wr ⟨t, u4, u6, u7, u8, u9, u10, u11, u12, u13, u14, u15, u16, u17, u18, u19, rfl, ht, hP, hB⟩
 have JB := Keep.mk hB
 have JP := Keep.mk hP
 clear hB hP
 have HRr := Keep.mk (HR1.out.below JB.out)
 have HXr := Keep.mk (HX1.out.below JB.out HX1.out.lt)
 by_cases htl : t < L.length
 ·have htl' : (t : Int) < (L.length : Int) := by omega
  have hwr1 : IntKind.i64.wrap ((t : Int) + 1) = (t : Int) + 1 := by rw [IntKind.wrap_i64]; have := HL.out; omega
  obtain ⟨gp, op, hpa, -, hrg⟩ := (HRr.out).at (by omega)
  have hel : wr.rangeAt gp (op + t * 34) (encH L[t].1.id) := vtx_id (flat_elem encV_len hrg t htl)
  obtain ⟨hh, hhh⟩ : ∃ hh, hh = L[t].1.id := ⟨_, rfl⟩
  rw [← hhh] at hel
  have Jhh := Keep.mk hhh
  have Hel := Keep.mk hel
  subst hpa
  clear hrg hhh hel
  refine wp_seq_k fun K4 hK4 => ?_
  refine wp_seq_k fun K5 hK5 => rgn ?_
  refine VlS (.int .i64 (t : Int)) ?_
  refine VlS (.slice (some ⟨gp, op, none⟩) L.length pc) ?_
  refine VlS (.int .i64 (L.length : Int)) ?_
  refine VlS (.bool true) ?_
  refine WL.nil (hK5 _ _ ?_)
  refine wp_cond_true rfl ?_
  refine wp_skip ?_
  refine hK4 _ _ ?_
  refine wp_seq_k fun K6 hK6 => ?_
  refine wp_block ?_
  refine wp_seq_k fun K7 hK7 => ?_
  have hS0 : Keep ((fun wx => wx.rangeAt gp (op + t * 34) (encH hh) ∧ wx.rangeAt w.heap.size 0 (bytesA 32 x.f).toList) wr.drew) := ⟨⟨rangeAt_drew Hel.out, blk_rng HXr.out.drew⟩⟩
  obtain ⟨cb, hcb⟩ : ∃ b, decide (hh = x) = b := ⟨_, rfl⟩
  have Hcb := Keep.mk hcb
  clear hcb
  refine wp_region_held_drew (S := fun wx => wx.rangeAt gp (op + t * 34) (encH hh) ∧ wx.rangeAt w.heap.size 0 (bytesA 32 x.f).toList) (by kernel_rfl) (hS0.out) (fun hHeld => ?_)
  refine tkS (i := 0) (oi := ⟨some 12, Op.move (Operand.tmp 0), 55, _, _, none⟩) (v := .slice (some ⟨gp, op, none⟩) L.length pc) rfl (Or.inl ⟨by rfl, fun w hS => by clear hS; go_simp⟩) hHeld ?_
  refine tkS (i := 1) (oi := ⟨some 13, Op.move (Operand.tmp 5), 3, _, _, none⟩) (v := .int .i64 (t : Int)) rfl (Or.inl ⟨by rfl, fun w hS => by clear hS; go_simp⟩) hHeld ?_
  refine tkS (i := 2) (oi := ⟨some 14, Op.indexAddr 55 (Operand.tmp 12) (Operand.tmp 13), 0, _, _, none⟩) (v := .pointer (some ⟨gp, op + t * 34, none⟩)) rfl (Or.inl ⟨by rfl, fun w hS => by go_simp⟩) hHeld ?_
  refine tkS (i := 3) (oi := ⟨some 15, Op.fieldAddr 39 (Operand.tmp 14) 0, 0, _, _, none⟩) (v := .pointer (some ⟨gp, op + t * 34, none⟩)) rfl (Or.inl ⟨by rfl, fun w hS => by go_simp⟩) hHeld ?_
  refine tkS (i := 4) (oi := ⟨some 16, Op.load 36 (Operand.tmp 15), 36, _, _, none⟩) (v := .agg (bytesA 32 hh.f)) rfl (yieldsIf_ldE (by rfl) (Operand.tmp 15) rfl gp (op + t * 34) rfl hh fun w hS => hS.1) hHeld ?_
  refine tkS (i := 5) (oi := ⟨some 17, Op.load 36 (Operand.tmp 3), 36, _, _, none⟩) (v := .agg (bytesA 32 x.f)) rfl (yieldsIf_ld (by rfl) (Operand.tmp 3) 36 rfl w.heap.size 0 rfl (bytesA 32 x.f) _ Try.underlying36 rfl (size36A _) fun w hS => hS.2) hHeld ?_
  refine tkS (i := 6) (oi := ⟨some 18, Op.binOp BinOp.eql 36 (Operand.tmp 16) (Operand.tmp 17) 36, 4, _, _, none⟩) (v := .bool cb) rfl (Or.inl ⟨by rfl, fun w hS => by go_simp; rw [run_equal_arr2, all_eq_iff, Hcb.out]; rfl⟩) hHeld ?_
  refine wpAnyH_done (by kernel_rfl) ?_ _
  refine hK7 _ _ ?_
  rcases Bool.eq_false_or_eq_true cb with hcq | hcq
  ·subst hcq
   refine wp_cond_true rfl ?_
   refine wp_seq_k fun K8 hK8 => rgn ?_
   refine VlS (.int .i64 (t : Int)) ?_
   refine VlS (.int .i64 (t : Int)) ?_
   refine WL.nil (hK8 _ _ ?_)
   refine wp_ret ?_
   go_ret
   have heq : x = hh := (of_decide_eq_true Hcb.out).symm
   refine ⟨?_, belowT LB1.out (belowT JB.out (Below.refl _ _).drew)⟩
   rw [JP.out, List.drop_eq_getElem_cons htl, List.map_cons, ixF, ← Jhh.out, if_pos heq]; rfl
  ·subst hcq
   refine wp_cond_false rfl ?_
   refine wp_skip ?_
   refine hK6 _ _ ?_
   refine rgn ?_
   refine VlS (.int .i64 (t : Int)) ?_
   refine VlS (.int .i64 ((t : Int) + 1)) ?_
   refine VlS (.int .i64 ((t : Int) + 1)) ?_
   refine WL.nil ?_
   have hne : ¬ x = hh := fun e => of_decide_eq_false Hcb.out e.symm
   refine ⟨⟨t + 1, u4, .int .i64 (t : Int), .slice (some ⟨gp, op, none⟩) L.length pc, .int .i64 (L.length : Int), .bool true, .int .i64 (t : Int), .int .i64 ((t : Int) + 1), .slice (some ⟨gp, op, none⟩) L.length pc, .int .i64 (t : Int), .pointer (some ⟨gp, op + t * 34, none⟩), .pointer (some ⟨gp, op + t * 34, none⟩), .agg (bytesA 32 hh.f), .agg (bytesA 32 x.f), .bool false, u19, rfl, by omega, ?_, belowT JB.out (Below.refl _ _).drew⟩, ?_⟩
   ·rw [JP.out, List.drop_eq_getElem_cons htl, List.map_cons, ixF, ← Jhh.out, if_neg hne]
   ·simp only [intOf]; show L.length - ((t : Int) + 1).toNat < L.length - ((t : Int)).toNat; omega
 ·have hte : Keep (t = L.length) := ⟨by omega⟩
  have htl' : ¬ (t : Int) < (L.length : Int) := by omega
  refine wp_seq_k fun K9 hK9 => ?_
  refine wp_seq_k fun K10 hK10 => rgn ?_
  refine VlS (.int .i64 (t : Int)) ?_
  refine VlS (.slice pa L.length pc) ?_
  refine VlS (.int .i64 (L.length : Int)) ?_
  refine VlS (.bool false) ?_
  refine WL.nil (hK10 _ _ ?_)
  refine wp_cond_false rfl ?_
  refine wp_exit ?_
  refine hK2 _ _ ?_
  refine wp_seq_k fun K11 hK11 => rgn ?_
  refine VlS (.int .i64 (-1)) ?_
  refine WL.nil (hK11 _ _ ?_)
  refine wp_ret ?_
  go_ret
  refine ⟨?_, belowT LB1.out JB.out⟩
  rw [JP.out, hte.out, List.drop_length]; rfl
theorem getD_atl {l : List Hs} {m : Nat} (h : m < l.length) : l.getD m default = l[m] := by rw [List.getD_eq_getElem?_getD, List.getElem?_eq_getElem h]; rfl
theorem seek_lo {l : List Hs} {x : Hs} (hI : Inc l) {m : Nat} (hm : m < l.length) (h : Lt l[m] x) : ∀ i, i < m + 1 → Lt (l.getD i default) x := fun i hi => by
 by_cases e : i = m
 ·subst e; rw [getD_atl hm]; exact h
 ·have h1 := hI i m (by omega) hm
  rw [getD_atl hm] at h1
  exact Lt.trans h1 h
theorem seek_hi {l : List Hs} {x : Hs} (hI : Inc l) {m : Nat} (hm : m < l.length) (h : Lt x l[m]) : ∀ i, m ≤ i → i < l.length → Lt x (l.getD i default) := fun i hi hl => by
 by_cases e : i = m
 ·subst e; rw [getD_atl hm]; exact h
 ·have h1 := hI m i (by omega) hl
  rw [getD_atl hm] at h1
  exact Lt.trans h h1
theorem seek_no {l : List Hs} {x : Hs} {t : Nat} (h1 : ∀ i, i < t → Lt (l.getD i default) x) (h2 : ∀ i, t ≤ i → i < l.length → Lt x (l.getD i default)) : x ∉ l := fun h => by
 obtain ⟨i, hi, e⟩ := List.getElem_of_mem h
 have e2 := getD_atl hi
 rw [e] at e2
 by_cases hlt : i < t
 ·have := h1 i hlt; rw [e2] at this; exact Lt.irrefl _ this
 ·have := h2 i (by omega) hi; rw [e2] at this; exact Lt.irrefl _ this
set_option maxRecDepth 8000 in
set_option maxHeartbeats 400000 in
theorem seek_any (v : Value) (l : List Hs) (x : Hs) (w : World) (hr : HRow w v l) (hI : Inc l) (hL : l.length ≤ 4398046511104) : Calls Try.prog 75 #[v, .agg (bytesA 32 x.f)] w fun e w' => e = .returned (.int .i64 (ixF x l 0)) ∧ Below w.heap.size w w' := by
 obtain ⟨pa, pc, rfl⟩ := hr.form
 have HR := Keep.mk hr
 have HL := Keep.mk hL
 have HI := Keep.mk hI
 clear hr hL hI
 go_enter Try.func75, Try.ntmps75
 refine wp_seq_k fun K1 hK1 => rgn ?_
 refine WL.box (by kernel_rfl) 36 (.tmp 1) rfl (bytesA 32 x.f) rfl ?_
 obtain ⟨w1, hwn⟩ : ∃ wx, Keep (wx = w.alloc (.cells (bytesA 32 x.f) 36)) := ⟨_, ⟨rfl⟩⟩
 rw [← hwn.out]
 have HX1 : Keep (Blk w1 w.heap.size 36 (bytesA 32 x.f)) := ⟨by rw [hwn.out]; exact Blk.new _ _ _⟩
 have LB1 : Keep (Below w.heap.size w w1) := ⟨by rw [hwn.out]; exact below_new _ _⟩
 clear hwn
 have HR1 := Keep.mk (HR.out.below LB1.out)
 simp only [Act.put, pqA, pqB, pqC]
 refine VlS (.int .i64 0) ?_
 refine WL.nil (hK1 _ _ ?_)
 refine wp_seq_k fun K2 hK2 => rgn ?_
 refine VlS (.slice pa l.length pc) ?_
 refine VlS (.int .i64 (l.length : Int)) ?_
 refine VlS (.int .i64 0) ?_
 refine VlS (.int .i64 (l.length : Int)) ?_
 refine WL.nil (hK2 _ _ ?_)
 refine wp_seq_k fun K3 hK3 => ?_
 refine wp_block ?_
 refine wp_loop (fun ac wr => ∃ (t : Nat) (u4 u7 u8 u11 u12 u13 u14 u15 u16 u17 u18 u19 u20 u21 u22 u23 u24 u25 u26 u27 u28 u29 u30 u31 : Value) (hi : Nat), ac = { tmps := #[.slice pa l.length pc, .agg (bytesA 32 x.f), undef, .pointer (some ⟨w.heap.size, 0, none⟩), u4, .int .i64 (t : Int), .int .i64 (hi : Int), u7, u8, .slice pa l.length pc, .int .i64 (l.length : Int), u11, u12, u13, u14, u15, u16, u17, u18, u19, u20, u21, u22, u23, u24, u25, u26, u27, u28, u29, u30, u31], defers := [] } ∧ t ≤ hi ∧ hi ≤ l.length ∧ (∀ i, i < t → Lt (l.getD i default) x) ∧ (∀ i, hi ≤ i → i < l.length → Lt x (l.getD i default)) ∧ Below w1.heap.size w1 wr) (fun a _ => (intOf (a.tmps.getD 6 undef)).toNat - (intOf (a.tmps.getD 5 undef)).toNat) ⟨0, .int .i64 0, undef, undef, undef, undef, undef, undef, undef, undef, undef, undef, undef, undef, undef, undef, undef, undef, undef, undef, undef, undef, undef, undef, undef, l.length, rfl, by omega, by omega, fun i h => absurd h (by omega), fun i h1 h2 => absurd h2 (by omega), Below.refl _ _⟩ ?_
 rintro ac wr ⟨t, u4, u7, u8, u11, u12, u13, u14, u15, u16, u17, u18, u19, u20, u21, u22, u23, u24, u25, u26, u27, u28, u29, u30, u31, hi, rfl, ht, hhi, hL1, hH1, hB⟩
 have JB := Keep.mk hB
 have JL := Keep.mk hL1
 have JH := Keep.mk hH1
 clear hB hL1 hH1
 have HRr := Keep.mk (HR1.out.below JB.out)
 have HXr := Keep.mk (HX1.out.below JB.out HX1.out.lt)
 by_cases hlh : t < hi
 ·have hlh' : (t : Int) < (hi : Int) := by omega
  obtain ⟨m, hm⟩ : ∃ m, m = (t + hi) / 2 := ⟨_, rfl⟩
  have hml : m < hi := by omega
  have hmt : t ≤ m := by omega
  have hmL : m < l.length := by omega
  have hml' : (m : Int) < (l.length : Int) := by omega
  have hwa : IntKind.i64.wrap ((t : Int) + (hi : Int)) = (t : Int) + (hi : Int) := by rw [IntKind.wrap_i64]; have := HL.out; omega
  have hwd : IntKind.i64.wrap (((t : Int) + (hi : Int)).tdiv 2) = (m : Int) := by rw [IntKind.wrap_i64, Int.tdiv_eq_ediv_of_nonneg (by omega)]; have := HL.out; omega
  have hwm : IntKind.i64.wrap ((m : Int) + 1) = ((m + 1 : Nat) : Int) := by rw [IntKind.wrap_i64]; have := HL.out; omega
  obtain ⟨gp, op, hpa, -, -, hrg⟩ := (HRr.out).at (by omega)
  have hel := rangeAt_elem hrg m hmL
  obtain ⟨hh, hhh⟩ : ∃ hh, hh = l[m] := ⟨_, rfl⟩
  rw [← hhh] at hel
  have Jhh := Keep.mk hhh
  have Hel := Keep.mk hel
  have Jm := Keep.mk hm
  subst hpa
  obtain ⟨cc, hcc⟩ : ∃ c, Keep (cf hh x = c) := ⟨_, ⟨rfl⟩⟩
  clear hrg hhh hel hm
  refine wp_seq_k fun K4 hK4 => ?_
  refine wp_seq_k fun K5 hK5 => rgn ?_
  refine VlS (.int .i64 (t : Int)) ?_
  refine VlS (.int .i64 (hi : Int)) ?_
  refine VlS (.bool true) ?_
  refine WL.nil (hK5 _ _ ?_)
  refine wp_cond_true rfl ?_
  refine wp_skip ?_
  refine hK4 _ _ ?_
  refine wp_block ?_
  refine wp_seq_k fun K6 hK6 => rgn ?_
  refine VlS (.int .i64 (t : Int)) ?_
  refine VlS (.int .i64 (hi : Int)) ?_
  refine VlS (.int .i64 ((t : Int) + (hi : Int))) ?_
  refine VlS (.int .i64 (m : Int)) ?_
  refine VlS (.int .i64 (m : Int)) ?_
  refine WL.nil (hK6 _ _ ?_)
  refine wp_seq_k fun K7 hK7 => ?_
  have hS0 : Keep (∀ wx, Below wr.heap.size wr wx → (fun wx => wx.rangeAt gp (op + m * 32) (encH hh) ∧ wx.rangeAt w.heap.size 0 (bytesA 32 x.f).toList) wx) := ⟨fun wx hb => ⟨rangeAt_below Hel.out hb (rangeAt_ltE Hel.out), blk_rng (HXr.out.below hb HXr.out.lt)⟩⟩
  have BD : Keep (Below wr.heap.size wr wr.drew) := ⟨(Below.refl _ _).drew⟩
  refine wp_region_held_drew (S := fun wx => wx.rangeAt gp (op + m * 32) (encH hh) ∧ wx.rangeAt w.heap.size 0 (bytesA 32 x.f).toList) (by kernel_rfl) (hS0.out _ BD.out) (fun hHeld => ?_)
  refine tkS (i := 0) (oi := ⟨some 18, Op.move (Operand.tmp 0), 37, _, _, none⟩) (v := .slice (some ⟨gp, op, none⟩) l.length pc) rfl (Or.inl ⟨by rfl, fun w hS => by clear hS; go_simp⟩) hHeld ?_
  refine tkS (i := 1) (oi := ⟨some 19, Op.move (Operand.tmp 7), 3, _, _, none⟩) (v := .int .i64 (m : Int)) rfl (Or.inl ⟨by rfl, fun w hS => by clear hS; go_simp⟩) hHeld ?_
  refine tkS (i := 2) (oi := ⟨some 20, Op.indexAddr 37 (Operand.tmp 18) (Operand.tmp 19), 0, _, _, none⟩) (v := .pointer (some ⟨gp, op + m * 32, none⟩)) rfl (Or.inl ⟨by rfl, fun w hS => by clear hS; go_simp⟩) hHeld ?_
  refine tkS (i := 3) (oi := ⟨some 21, Op.load 36 (Operand.tmp 20), 36, _, _, none⟩) (v := .agg (bytesA 32 hh.f)) rfl (yieldsIf_ldE (by rfl) (Operand.tmp 20) rfl gp (op + m * 32) rfl hh fun w hS => hS.1) hHeld ?_
  refine tkS (i := 4) (oi := ⟨some 22, Op.load 36 (Operand.tmp 3), 36, _, _, none⟩) (v := .agg (bytesA 32 x.f)) rfl (yieldsIf_ld (by rfl) (Operand.tmp 3) 36 rfl w.heap.size 0 rfl (bytesA 32 x.f) _ Try.underlying36 rfl (size36A _) fun w hS => hS.2) hHeld ?_
  refine wpAnyH_ready (rs := [5]) (by kernel_rfl) (by simp) ?_
  refine AllReadyH.cons (o := ⟨some 23, Op.call { callee := Callee.value (Operand.func 57), args := #[Operand.tmp 21, Operand.tmp 22], argTypes := #[36, 36] }, 3, _, _, none⟩) rfl (fun K hK => ?_) AllReadyH.nil
  rw [if_pos (by rfl)]
  have hcp := cmpR_any hh x wr.drew
  rw [hcc.out] at hcp
  refine wp_callF 57 _ _ rfl Try.in57 #[.agg (bytesA 32 hh.f), .agg (bytesA 32 x.f)] (by simp [Act.eval]) (fun u wx => u = .int .i64 cc ∧ Below wr.drew.heap.size wr.drew wx) (hcp.mono fun e w' ⟨h1, h2⟩ => ⟨_, h1, rfl, h2⟩) ?_
  clear hcp
  rintro _ w5 ⟨rfl, hb⟩
  have K5 : Keep (Below wr.heap.size wr w5) := ⟨belowT BD.out hb⟩
  refine hK _ _ (hS0.out _ K5.out) fun hH1 => ?_
  clear hK hb
  simp only [Act.put, pqA, pqB, pqC]
  refine tkS (i := 6) (oi := ⟨some 8, Op.assign (Operand.tmp 23), 3, _, _, none⟩) (v := .int .i64 cc) rfl (Or.inl ⟨by rfl, fun w hS => by clear hS; go_simp⟩) hH1 ?_
  refine wpAnyH_done (by kernel_rfl) ?_ _
  refine hK7 _ _ ?_
  refine wp_seq_k fun K8 hK8 => ?_
  refine wp_seq_k fun K9 hK9 => rgn ?_
  refine VlS (.int .i64 cc) ?_
  by_cases h5_1 : cc = 0
  ·skip
   refine VlS (.bool true) ?_
   refine WL.nil (hK9 _ _ ?_)
   refine wp_cond_true rfl ?_
   refine wp_seq_k fun K10 hK10 => rgn ?_
   refine VlS (.int .i64 (m : Int)) ?_
   refine VlS (.int .i64 (m : Int)) ?_
   refine WL.nil (hK10 _ _ ?_)
   refine wp_ret ?_
   go_ret
   refine ⟨?_, belowT LB1.out (belowT JB.out K5.out)⟩
   rw [ixF_inc HI.out m hmL (by rw [← Jhh.out]; exact (cf_zero _ _).1 (by rw [hcc.out]; assumption))]; rfl
  ·skip
   refine VlS (.bool false) ?_
   refine WL.nil (hK9 _ _ ?_)
   refine wp_cond_false rfl ?_
   refine wp_skip ?_
   refine hK8 _ _ ?_
   refine wp_seq_k fun K11 hK11 => rgn ?_
   refine VlS (.int .i64 cc) ?_
   by_cases h7_1 : cc < 0
   ·skip
    refine VlS (.bool true) ?_
    refine WL.nil (hK11 _ _ ?_)
    refine wp_cond_true rfl ?_
    refine rgn ?_
    refine VlS (.int .i64 (m : Int)) ?_
    refine VlS (.int .i64 ((m + 1 : Nat) : Int)) ?_
    refine VlS (.int .i64 ((m + 1 : Nat) : Int)) ?_
    refine WL.nil ?_
    have hlt : Lt hh x := by unfold Lt; rw [hcc.out]; assumption
    refine ⟨⟨m + 1, u4, .int .i64 (m : Int), .int .i64 cc, .int .i64 (t : Int), .int .i64 (hi : Int), .bool true, .int .i64 (t : Int), .int .i64 (hi : Int), .int .i64 ((t : Int) + (hi : Int)), .int .i64 (m : Int), .slice (some ⟨gp, op, none⟩) l.length pc, .int .i64 (m : Int), .pointer (some ⟨gp, op + m * 32, none⟩), .agg (bytesA 32 hh.f), .agg (bytesA 32 x.f), .int .i64 cc, .int .i64 cc, .bool false, u26, .int .i64 cc, .bool true, .int .i64 (m : Int), .int .i64 ((m + 1 : Nat) : Int), u31, hi, rfl, by omega, by omega, seek_lo HI.out hmL (by rw [← Jhh.out]; exact hlt), JH.out, belowT JB.out K5.out⟩, ?_⟩
    simp only [intOf]; show ((hi : Int)).toNat - (((m + 1 : Nat) : Int)).toNat < ((hi : Int)).toNat - ((t : Int)).toNat; omega
   ·skip
    refine VlS (.bool false) ?_
    refine WL.nil (hK11 _ _ ?_)
    refine wp_cond_false rfl ?_
    refine rgn ?_
    refine VlS (.int .i64 (m : Int)) ?_
    refine VlS (.int .i64 (m : Int)) ?_
    refine WL.nil ?_
    have hlt : Lt x hh := by unfold Lt; rw [cf_swap, hcc.out]; omega
    refine ⟨⟨t, u4, .int .i64 (m : Int), .int .i64 cc, .int .i64 (t : Int), .int .i64 (hi : Int), .bool true, .int .i64 (t : Int), .int .i64 (hi : Int), .int .i64 ((t : Int) + (hi : Int)), .int .i64 (m : Int), .slice (some ⟨gp, op, none⟩) l.length pc, .int .i64 (m : Int), .pointer (some ⟨gp, op + m * 32, none⟩), .agg (bytesA 32 hh.f), .agg (bytesA 32 x.f), .int .i64 cc, .int .i64 cc, .bool false, u26, .int .i64 cc, .bool false, u29, u30, .int .i64 (m : Int), m, rfl, by omega, by omega, JL.out, seek_hi HI.out hmL (by rw [← Jhh.out]; exact hlt), belowT JB.out K5.out⟩, ?_⟩
    simp only [intOf]; show ((m : Int)).toNat - ((t : Int)).toNat < ((hi : Int)).toNat - ((t : Int)).toNat; omega
 ·have hlh' : ¬ (t : Int) < (hi : Int) := by omega
  have hte : hi = t := by omega
  refine wp_seq_k fun K12 hK12 => ?_
  refine wp_seq_k fun K13 hK13 => rgn ?_
  refine VlS (.int .i64 (t : Int)) ?_
  refine VlS (.int .i64 (hi : Int)) ?_
  refine VlS (.bool false) ?_
  refine WL.nil (hK13 _ _ ?_)
  refine wp_cond_false rfl ?_
  refine wp_exit ?_
  refine hK3 _ _ ?_
  refine wp_seq_k fun K14 hK14 => rgn ?_
  refine VlS (.int .i64 (-1)) ?_
  refine WL.nil (hK14 _ _ ?_)
  refine wp_ret ?_
  go_ret
  refine ⟨?_, belowT LB1.out JB.out⟩
  rw [ixF_no (seek_no JL.out (hte ▸ JH.out))]; rfl
end Go.Proofs.Ytogmdfhicbmplaa
namespace Go.Proofs.Ytogmdfhicbmplaa
open Go.RowKit
set_option linter.unusedSimpArgs false
set_option linter.unusedVariables false

theorem Try.in46 (w : World) (vs : Array Value) : (callFunc 46 vs).run Try.prog w = .ok (.enter 46 vs) w := by kernel_rfl
theorem Try.in48 (w : World) (vs : Array Value) : (callFunc 48 vs).run Try.prog w = .ok (.enter 48 vs) w := by kernel_rfl
/-- The document's dag: its room, what is held, what waits, the held ones' hashes. -/
structure RG where
 room : Int
 held : List VP
 wait : List VP
 sets : List Hs
def RG.hs (R : RG) : List VX := R.held.map (·.1)
def RG.ws (R : RG) : List VX := R.wait.map (·.1)
def rdA (r : Int) (hv wv sv : Value) : Array Value := #[.int .i64 r, hv, wv, sv]
/-- What holds of every such dag. -/
structure RI (R : RG) : Prop where
 inc : Inc R.sets
 mem : ∀ x, x ∈ R.sets ↔ x ∈ R.hs.map (·.id)
 hl : R.held.length ≤ 4096
 sl : R.sets.length ≤ 4096
 wl : R.wait.length ≤ 4096
 ck : ∀ v ∈ R.hs, 0 ≤ v.ck ∧ v.ck ≤ 4096
 hp : ∀ v ∈ R.hs, v.ps.length ≤ 64
 wp : ∀ v ∈ R.ws, v.ps.length ≤ 64
/-- It lies at d. -/
def RRd (w : World) (d : Nat) (R : RG) : Prop := ∃ hv wv sv, Blk w d 79 (rdA R.room hv wv sv) ∧ VRow w hv R.held ∧ VRow w wv R.wait ∧ HRow w sv R.sets
theorem RRd.below {w w' : World} {d : Nat} {R : RG} (h : RRd w d R) (hb : Below w.heap.size w w') : RRd w' d R := by
 obtain ⟨hv, wv, sv, h1, h2, h3, h4⟩ := h
 exact ⟨hv, wv, sv, h1.below hb h1.lt, h2.below hb, h3.below hb, h4.below hb⟩
theorem ixF_ge {x : Hs} : ∀ {l : List Hs} {t : Nat}, 0 ≤ ixF x l t ↔ x ∈ l
 | [], _ => by simp [ixF]
 | y :: r, t => by
  rw [ixF]
  by_cases h : x = y
  ·rw [if_pos h]; simp [h]
  ·rw [if_neg h, ixF_ge]; simp [h]
theorem hasB_mem {l : List VX} {x : Hs} : hasB l x = true ↔ x ∈ l.map (·.id) := by
 unfold hasB
 rw [List.find?_isSome]
 simp only [List.mem_map]
 constructor
 ·rintro ⟨v, h1, h2⟩; exact ⟨v, h1, by simpa [isV] using Eq.symm (by simpa [isV] using h2 : x = v.id)⟩
 ·rintro ⟨v, h1, h2⟩; exact ⟨v, h1, by simpa [isV] using h2.symm⟩
theorem hasB_ix {l : List VX} {m : List Hs} {x : Hs} (h : x ∈ m ↔ x ∈ l.map (·.id)) : hasB l x = decide (0 ≤ ixF x m 0) := by
 rw [Bool.eq_iff_iff, hasB_mem, decide_eq_true_iff, ixF_ge, h]
set_option maxRecDepth 8000 in
set_option maxHeartbeats 400000 in
theorem rhas_any (d : Nat) (x : Hs) (R : RG) (w : World) (hD : RRd w d R) (hI : RI R) : Calls Try.prog 46 #[ptr d, .agg (bytesA 32 x.f)] w fun e w' => e = .returned (.bool (hasB R.hs x)) ∧ Below w.heap.size w w' := by
 obtain ⟨hv, wv, sv, h1, h2, h3, h4⟩ := hD
 have HB := Keep.mk h1
 have HR := Keep.mk h4
 have HI := Keep.mk hI
 clear h1 h2 h3 h4 hI
 go_enter Try.func46, Try.ntmps46
 refine wp_seq_k fun K1 hK1 => rgn ?_
 refine WL.box (by kernel_rfl) 36 (.tmp 1) rfl (bytesA 32 x.f) rfl ?_
 obtain ⟨w1, hwn⟩ : ∃ wx, Keep (wx = w.alloc (.cells (bytesA 32 x.f) 36)) := ⟨_, ⟨rfl⟩⟩
 rw [← hwn.out]
 have HX1 : Keep (Blk w1 w.heap.size 36 (bytesA 32 x.f)) := ⟨by rw [hwn.out]; exact Blk.new _ _ _⟩
 have LB1 : Keep (Below w.heap.size w w1) := ⟨by rw [hwn.out]; exact below_new _ _⟩
 clear hwn
 have HB1 := Keep.mk (HB.out.below LB1.out HB.out.lt)
 have HR1 := Keep.mk (HR.out.below LB1.out)
 simp only [Act.put, pqA, pqB, pqC]
 refine VlS (.bool false) ?_
 refine WL.nil (hK1 _ _ ?_)
 refine wp_seq_k fun K2 hK2 => ?_
 have hS0 : Keep (∀ wx, Below w1.heap.size w1 wx → (fun wx => wx.cell? ⟨d, 3, none⟩ = some sv ∧ wx.rangeAt w.heap.size 0 (bytesA 32 x.f).toList) wx) := ⟨fun wx hb => ⟨(HB1.out.below hb HB1.out.lt).c 3 rfl, blk_rng (HX1.out.below hb HX1.out.lt)⟩⟩
 have BD : Keep (Below w1.heap.size w1 w1.drew) := ⟨(Below.refl _ _).drew⟩
 obtain ⟨ix, hix⟩ : ∃ i, Keep (ixF x R.sets 0 = i) := ⟨_, ⟨rfl⟩⟩
 by_cases hge : 0 ≤ ix
 ·have hgd : decide (0 ≤ ix) = true := by simp [hge]
  refine wp_region_held_drew (S := fun wx => wx.cell? ⟨d, 3, none⟩ = some sv ∧ wx.rangeAt w.heap.size 0 (bytesA 32 x.f).toList) (by kernel_rfl) (hS0.out _ BD.out) (fun hHeld => ?_)
  refine tkS (i := 0) (oi := ⟨some 5, Op.move (Operand.tmp 0), 31, _, _, none⟩) (v := .pointer (some ⟨d, 0, none⟩)) rfl (Or.inl ⟨by rfl, fun w hS => by clear hS; go_simp⟩) hHeld ?_
  refine tkS (i := 1) (oi := ⟨some 6, Op.nilCheck (Operand.tmp 5), 0, _, _, none⟩) (v := .pointer (some ⟨d, 0, none⟩)) rfl (Or.inl ⟨by rfl, fun w hS => by clear hS; go_simp⟩) hHeld ?_
  refine tkS (i := 2) (oi := ⟨some 7, Op.fieldAddr 79 (Operand.tmp 6) 3, 0, _, _, none⟩) (v := .pointer (some ⟨d, 3, none⟩)) rfl (Or.inl ⟨by rfl, fun w hS => by clear hS; go_simp⟩) hHeld ?_
  refine tkS (i := 3) (oi := ⟨some 8, Op.load 37 (Operand.tmp 7), 37, _, _, none⟩) (v := sv) rfl (Or.inl ⟨by rfl, fun w hS => by obtain ⟨hS1, hS2⟩ := hS; clear hS2; go_simp⟩) hHeld ?_
  refine tkS (i := 4) (oi := ⟨some 9, Op.load 36 (Operand.tmp 3), 36, _, _, none⟩) (v := .agg (bytesA 32 x.f)) rfl (yieldsIf_ld (by rfl) (Operand.tmp 3) 36 rfl w.heap.size 0 rfl (bytesA 32 x.f) _ Try.underlying36 rfl (size36A _) fun w hS => hS.2) hHeld ?_
  refine wpAnyH_ready (rs := [5]) (by kernel_rfl) (by simp) ?_
  refine AllReadyH.cons (o := ⟨some 10, Op.call { callee := Callee.value (Operand.func 75), args := #[Operand.tmp 8, Operand.tmp 9], argTypes := #[37, 36] }, 3, _, _, none⟩) rfl (fun K hK => ?_) AllReadyH.nil
  rw [if_pos (by rfl)]
  have hcp := seek_any sv R.sets x w1.drew (HR1.out.below BD.out) HI.out.inc (Nat.le_trans HI.out.sl (by omega))
  rw [hix.out] at hcp
  refine wp_callF 75 _ _ rfl Try.in75 #[sv, .agg (bytesA 32 x.f)] (by simp [Act.eval]) (fun u wx => u = .int .i64 ix ∧ Below w1.drew.heap.size w1.drew wx) (hcp.mono fun e w' ⟨h1, h2⟩ => ⟨_, h1, rfl, h2⟩) ?_
  clear hcp
  rintro _ w5 ⟨rfl, hb⟩
  have K5 : Keep (Below w1.heap.size w1 w5) := ⟨belowT BD.out hb⟩
  refine hK _ _ (hS0.out _ K5.out) fun hH1 => ?_
  clear hK hb
  simp only [Act.put, pqA, pqB, pqC]
  refine tkS (i := 6) (oi := ⟨some 11, Op.binOp BinOp.geq 3 (Operand.tmp 10) (Operand.const (Value.int IntKind.i64 0)) 3, 4, _, _, none⟩) (v := .bool true) rfl (Or.inl ⟨by rfl, fun w hS => by clear hS; go_simp⟩) hH1 ?_
  refine tkS (i := 7) (oi := ⟨some 4, Op.assign (Operand.tmp 11), 4, _, _, none⟩) (v := .bool true) rfl (Or.inl ⟨by rfl, fun w hS => by clear hS; go_simp⟩) hH1 ?_
  refine wpAnyH_done (by kernel_rfl) ?_ _
  refine hK2 _ _ ?_
  refine wp_ret ?_
  go_ret
  exact ⟨by rw [hasB_ix (HI.out.mem x), hix.out, hgd]; rfl, belowT LB1.out K5.out⟩
 ·have hgd : decide (0 ≤ ix) = false := by simp [hge]
  refine wp_region_held_drew (S := fun wx => wx.cell? ⟨d, 3, none⟩ = some sv ∧ wx.rangeAt w.heap.size 0 (bytesA 32 x.f).toList) (by kernel_rfl) (hS0.out _ BD.out) (fun hHeld => ?_)
  refine tkS (i := 0) (oi := ⟨some 5, Op.move (Operand.tmp 0), 31, _, _, none⟩) (v := .pointer (some ⟨d, 0, none⟩)) rfl (Or.inl ⟨by rfl, fun w hS => by clear hS; go_simp⟩) hHeld ?_
  refine tkS (i := 1) (oi := ⟨some 6, Op.nilCheck (Operand.tmp 5), 0, _, _, none⟩) (v := .pointer (some ⟨d, 0, none⟩)) rfl (Or.inl ⟨by rfl, fun w hS => by clear hS; go_simp⟩) hHeld ?_
  refine tkS (i := 2) (oi := ⟨some 7, Op.fieldAddr 79 (Operand.tmp 6) 3, 0, _, _, none⟩) (v := .pointer (some ⟨d, 3, none⟩)) rfl (Or.inl ⟨by rfl, fun w hS => by clear hS; go_simp⟩) hHeld ?_
  refine tkS (i := 3) (oi := ⟨some 8, Op.load 37 (Operand.tmp 7), 37, _, _, none⟩) (v := sv) rfl (Or.inl ⟨by rfl, fun w hS => by obtain ⟨hS1, hS2⟩ := hS; clear hS2; go_simp⟩) hHeld ?_
  refine tkS (i := 4) (oi := ⟨some 9, Op.load 36 (Operand.tmp 3), 36, _, _, none⟩) (v := .agg (bytesA 32 x.f)) rfl (yieldsIf_ld (by rfl) (Operand.tmp 3) 36 rfl w.heap.size 0 rfl (bytesA 32 x.f) _ Try.underlying36 rfl (size36A _) fun w hS => hS.2) hHeld ?_
  refine wpAnyH_ready (rs := [5]) (by kernel_rfl) (by simp) ?_
  refine AllReadyH.cons (o := ⟨some 10, Op.call { callee := Callee.value (Operand.func 75), args := #[Operand.tmp 8, Operand.tmp 9], argTypes := #[37, 36] }, 3, _, _, none⟩) rfl (fun K hK => ?_) AllReadyH.nil
  rw [if_pos (by rfl)]
  have hcp := seek_any sv R.sets x w1.drew (HR1.out.below BD.out) HI.out.inc (Nat.le_trans HI.out.sl (by omega))
  rw [hix.out] at hcp
  refine wp_callF 75 _ _ rfl Try.in75 #[sv, .agg (bytesA 32 x.f)] (by simp [Act.eval]) (fun u wx => u = .int .i64 ix ∧ Below w1.drew.heap.size w1.drew wx) (hcp.mono fun e w' ⟨h1, h2⟩ => ⟨_, h1, rfl, h2⟩) ?_
  clear hcp
  rintro _ w5 ⟨rfl, hb⟩
  have K5 : Keep (Below w1.heap.size w1 w5) := ⟨belowT BD.out hb⟩
  refine hK _ _ (hS0.out _ K5.out) fun hH1 => ?_
  clear hK hb
  simp only [Act.put, pqA, pqB, pqC]
  refine tkS (i := 6) (oi := ⟨some 11, Op.binOp BinOp.geq 3 (Operand.tmp 10) (Operand.const (Value.int IntKind.i64 0)) 3, 4, _, _, none⟩) (v := .bool false) rfl (Or.inl ⟨by rfl, fun w hS => by clear hS; go_simp⟩) hH1 ?_
  refine tkS (i := 7) (oi := ⟨some 4, Op.assign (Operand.tmp 11), 4, _, _, none⟩) (v := .bool false) rfl (Or.inl ⟨by rfl, fun w hS => by clear hS; go_simp⟩) hH1 ?_
  refine wpAnyH_done (by kernel_rfl) ?_ _
  refine hK2 _ _ ?_
  refine wp_ret ?_
  go_ret
  exact ⟨by rw [hasB_ix (HI.out.mem x), hix.out, hgd]; rfl, belowT LB1.out K5.out⟩
set_option maxRecDepth 8000 in
set_option maxHeartbeats 400000 in
theorem rwaits_any (d : Nat) (x : Hs) (R : RG) (w : World) (hD : RRd w d R) (hI : RI R) : Calls Try.prog 48 #[ptr d, .agg (bytesA 32 x.f)] w fun e w' => e = .returned (.bool (hasB R.ws x)) ∧ Below w.heap.size w w' := by
 obtain ⟨hv, sv, tv, h1, h2, h3, h4⟩ := hD
 have HB := Keep.mk h1
 have HR := Keep.mk h3
 have HI := Keep.mk hI
 clear h1 h2 h3 h4 hI
 go_enter Try.func48, Try.ntmps48
 refine wp_seq_k fun K1 hK1 => rgn ?_
 refine WL.box (by kernel_rfl) 36 (.tmp 1) rfl (bytesA 32 x.f) rfl ?_
 obtain ⟨w1, hwn⟩ : ∃ wx, Keep (wx = w.alloc (.cells (bytesA 32 x.f) 36)) := ⟨_, ⟨rfl⟩⟩
 rw [← hwn.out]
 have HX1 : Keep (Blk w1 w.heap.size 36 (bytesA 32 x.f)) := ⟨by rw [hwn.out]; exact Blk.new _ _ _⟩
 have LB1 : Keep (Below w.heap.size w w1) := ⟨by rw [hwn.out]; exact below_new _ _⟩
 clear hwn
 have HB1 := Keep.mk (HB.out.below LB1.out HB.out.lt)
 have HR1 := Keep.mk (HR.out.below LB1.out)
 simp only [Act.put, pqA, pqB, pqC]
 refine VlS (.bool false) ?_
 refine WL.nil (hK1 _ _ ?_)
 refine wp_seq_k fun K2 hK2 => ?_
 have hS0 : Keep (∀ wx, Below w1.heap.size w1 wx → (fun wx => wx.cell? ⟨d, 2, none⟩ = some sv ∧ wx.rangeAt w.heap.size 0 (bytesA 32 x.f).toList) wx) := ⟨fun wx hb => ⟨(HB1.out.below hb HB1.out.lt).c 2 rfl, blk_rng (HX1.out.below hb HX1.out.lt)⟩⟩
 have BD : Keep (Below w1.heap.size w1 w1.drew) := ⟨(Below.refl _ _).drew⟩
 obtain ⟨ix, hix⟩ : ∃ i, Keep (ixF x (R.wait.map fun q => q.1.id) 0 = i) := ⟨_, ⟨rfl⟩⟩
 by_cases hge : 0 ≤ ix
 ·have hgd : decide (0 ≤ ix) = true := by simp [hge]
  refine wp_region_held_drew (S := fun wx => wx.cell? ⟨d, 2, none⟩ = some sv ∧ wx.rangeAt w.heap.size 0 (bytesA 32 x.f).toList) (by kernel_rfl) (hS0.out _ BD.out) (fun hHeld => ?_)
  refine tkS (i := 0) (oi := ⟨some 5, Op.move (Operand.tmp 0), 31, _, _, none⟩) (v := .pointer (some ⟨d, 0, none⟩)) rfl (Or.inl ⟨by rfl, fun w hS => by clear hS; go_simp⟩) hHeld ?_
  refine tkS (i := 1) (oi := ⟨some 6, Op.nilCheck (Operand.tmp 5), 0, _, _, none⟩) (v := .pointer (some ⟨d, 0, none⟩)) rfl (Or.inl ⟨by rfl, fun w hS => by clear hS; go_simp⟩) hHeld ?_
  refine tkS (i := 2) (oi := ⟨some 7, Op.fieldAddr 79 (Operand.tmp 6) 2, 0, _, _, none⟩) (v := .pointer (some ⟨d, 2, none⟩)) rfl (Or.inl ⟨by rfl, fun w hS => by clear hS; go_simp⟩) hHeld ?_
  refine tkS (i := 3) (oi := ⟨some 8, Op.load 55 (Operand.tmp 7), 55, _, _, none⟩) (v := sv) rfl (Or.inl ⟨by rfl, fun w hS => by obtain ⟨hS1, hS2⟩ := hS; clear hS2; go_simp⟩) hHeld ?_
  refine tkS (i := 4) (oi := ⟨some 9, Op.load 36 (Operand.tmp 3), 36, _, _, none⟩) (v := .agg (bytesA 32 x.f)) rfl (yieldsIf_ld (by rfl) (Operand.tmp 3) 36 rfl w.heap.size 0 rfl (bytesA 32 x.f) _ Try.underlying36 rfl (size36A _) fun w hS => hS.2) hHeld ?_
  refine wpAnyH_ready (rs := [5]) (by kernel_rfl) (by simp) ?_
  refine AllReadyH.cons (o := ⟨some 10, Op.call { callee := Callee.value (Operand.func 72), args := #[Operand.tmp 8, Operand.tmp 9], argTypes := #[55, 36] }, 3, _, _, none⟩) rfl (fun K hK => ?_) AllReadyH.nil
  rw [if_pos (by rfl)]
  have hcp := rplace_any sv R.wait x w1.drew (HR1.out.below BD.out) (Nat.le_trans HI.out.wl (by omega))
  rw [hix.out] at hcp
  refine wp_callF 72 _ _ rfl Try.in72 #[sv, .agg (bytesA 32 x.f)] (by simp [Act.eval]) (fun u wx => u = .int .i64 ix ∧ Below w1.drew.heap.size w1.drew wx) (hcp.mono fun e w' ⟨h1, h2⟩ => ⟨_, h1, rfl, h2⟩) ?_
  clear hcp
  rintro _ w5 ⟨rfl, hb⟩
  have K5 : Keep (Below w1.heap.size w1 w5) := ⟨belowT BD.out hb⟩
  refine hK _ _ (hS0.out _ K5.out) fun hH1 => ?_
  clear hK hb
  simp only [Act.put, pqA, pqB, pqC]
  refine tkS (i := 6) (oi := ⟨some 11, Op.binOp BinOp.geq 3 (Operand.tmp 10) (Operand.const (Value.int IntKind.i64 0)) 3, 4, _, _, none⟩) (v := .bool true) rfl (Or.inl ⟨by rfl, fun w hS => by clear hS; go_simp⟩) hH1 ?_
  refine tkS (i := 7) (oi := ⟨some 4, Op.assign (Operand.tmp 11), 4, _, _, none⟩) (v := .bool true) rfl (Or.inl ⟨by rfl, fun w hS => by clear hS; go_simp⟩) hH1 ?_
  refine wpAnyH_done (by kernel_rfl) ?_ _
  refine hK2 _ _ ?_
  refine wp_ret ?_
  go_ret
  exact ⟨by rw [hasB_ix (m := R.wait.map fun q => q.1.id) (by rw [RG.ws, List.map_map]; exact Iff.rfl), hix.out, hgd]; rfl, belowT LB1.out K5.out⟩
 ·have hgd : decide (0 ≤ ix) = false := by simp [hge]
  refine wp_region_held_drew (S := fun wx => wx.cell? ⟨d, 2, none⟩ = some sv ∧ wx.rangeAt w.heap.size 0 (bytesA 32 x.f).toList) (by kernel_rfl) (hS0.out _ BD.out) (fun hHeld => ?_)
  refine tkS (i := 0) (oi := ⟨some 5, Op.move (Operand.tmp 0), 31, _, _, none⟩) (v := .pointer (some ⟨d, 0, none⟩)) rfl (Or.inl ⟨by rfl, fun w hS => by clear hS; go_simp⟩) hHeld ?_
  refine tkS (i := 1) (oi := ⟨some 6, Op.nilCheck (Operand.tmp 5), 0, _, _, none⟩) (v := .pointer (some ⟨d, 0, none⟩)) rfl (Or.inl ⟨by rfl, fun w hS => by clear hS; go_simp⟩) hHeld ?_
  refine tkS (i := 2) (oi := ⟨some 7, Op.fieldAddr 79 (Operand.tmp 6) 2, 0, _, _, none⟩) (v := .pointer (some ⟨d, 2, none⟩)) rfl (Or.inl ⟨by rfl, fun w hS => by clear hS; go_simp⟩) hHeld ?_
  refine tkS (i := 3) (oi := ⟨some 8, Op.load 55 (Operand.tmp 7), 55, _, _, none⟩) (v := sv) rfl (Or.inl ⟨by rfl, fun w hS => by obtain ⟨hS1, hS2⟩ := hS; clear hS2; go_simp⟩) hHeld ?_
  refine tkS (i := 4) (oi := ⟨some 9, Op.load 36 (Operand.tmp 3), 36, _, _, none⟩) (v := .agg (bytesA 32 x.f)) rfl (yieldsIf_ld (by rfl) (Operand.tmp 3) 36 rfl w.heap.size 0 rfl (bytesA 32 x.f) _ Try.underlying36 rfl (size36A _) fun w hS => hS.2) hHeld ?_
  refine wpAnyH_ready (rs := [5]) (by kernel_rfl) (by simp) ?_
  refine AllReadyH.cons (o := ⟨some 10, Op.call { callee := Callee.value (Operand.func 72), args := #[Operand.tmp 8, Operand.tmp 9], argTypes := #[55, 36] }, 3, _, _, none⟩) rfl (fun K hK => ?_) AllReadyH.nil
  rw [if_pos (by rfl)]
  have hcp := rplace_any sv R.wait x w1.drew (HR1.out.below BD.out) (Nat.le_trans HI.out.wl (by omega))
  rw [hix.out] at hcp
  refine wp_callF 72 _ _ rfl Try.in72 #[sv, .agg (bytesA 32 x.f)] (by simp [Act.eval]) (fun u wx => u = .int .i64 ix ∧ Below w1.drew.heap.size w1.drew wx) (hcp.mono fun e w' ⟨h1, h2⟩ => ⟨_, h1, rfl, h2⟩) ?_
  clear hcp
  rintro _ w5 ⟨rfl, hb⟩
  have K5 : Keep (Below w1.heap.size w1 w5) := ⟨belowT BD.out hb⟩
  refine hK _ _ (hS0.out _ K5.out) fun hH1 => ?_
  clear hK hb
  simp only [Act.put, pqA, pqB, pqC]
  refine tkS (i := 6) (oi := ⟨some 11, Op.binOp BinOp.geq 3 (Operand.tmp 10) (Operand.const (Value.int IntKind.i64 0)) 3, 4, _, _, none⟩) (v := .bool false) rfl (Or.inl ⟨by rfl, fun w hS => by clear hS; go_simp⟩) hH1 ?_
  refine tkS (i := 7) (oi := ⟨some 4, Op.assign (Operand.tmp 11), 4, _, _, none⟩) (v := .bool false) rfl (Or.inl ⟨by rfl, fun w hS => by clear hS; go_simp⟩) hH1 ?_
  refine wpAnyH_done (by kernel_rfl) ?_ _
  refine hK2 _ _ ?_
  refine wp_ret ?_
  go_ret
  exact ⟨by rw [hasB_ix (m := R.wait.map fun q => q.1.id) (by rw [RG.ws, List.map_map]; exact Iff.rfl), hix.out, hgd]; rfl, belowT LB1.out K5.out⟩
end Go.Proofs.Ytogmdfhicbmplaa
namespace Go.Proofs.Ytogmdfhicbmplaa
open Go.RowKit
set_option linter.unusedSimpArgs false
set_option linter.unusedVariables false

theorem Try.in70 (w : World) (vs : Array Value) : (callFunc 70 vs).run Try.prog w = .ok (.enter 70 vs) w := by kernel_rfl
theorem Try.in56 (w : World) (vs : Array Value) : (callFunc 56 vs).run Try.prog w = .ok (.enter 56 vs) w := by kernel_rfl
theorem ckOf_no {l : List VX} {x : Hs} (h : hasB l x = false) : ckOf l x = 0 := by
 unfold hasB at h
 unfold ckOf
 cases hf : l.find? (isV x) with
 | none => rfl
 | some v => rw [hf] at h; cases h
theorem ixF_find {x : Hs} : ∀ {L : List VP} {t : Nat}, hasB (L.map (·.1)) x = true → ∃ m, ∃ hm : m < L.length, ixF x (L.map fun q => q.1.id) t = ((t + m : Nat) : Int) ∧ (L.map (·.1)).find? (isV x) = some L[m].1
 | [], _, h => by cases h
 | q :: r, t, h => by
  by_cases e : x = q.1.id
  ·refine ⟨0, by simp, ?_, ?_⟩
   ·rw [List.map_cons, ixF, if_pos e]; rfl
   ·rw [List.map_cons, List.find?_cons_of_pos (by simpa [isV] using e)]; rfl
  ·have h2 : hasB (r.map (·.1)) x = true := by
    rw [hasB_mem] at h ⊢
    rw [List.map_cons, List.map_cons, List.mem_cons] at h
    exact h.resolve_left e
   obtain ⟨m, hm, h3, h4⟩ := ixF_find (t := t + 1) h2
   refine ⟨m + 1, by simpa using hm, ?_, ?_⟩
   ·rw [List.map_cons, ixF, if_neg e, h3]; congr 1; omega
   ·rw [List.map_cons, List.find?_cons_of_neg (by simpa [isV] using e), h4]; rfl
set_option maxRecDepth 8000 in
set_option maxHeartbeats 1000000 in
theorem rclosed_any (d : Nat) (v : VX) (p : Value) (R : RG) (w : World) (hD : RRd w d R) (hI : RI R) (hr : HRow w p v.ps) (hL : (v.ps.length : Int) ≤ 9223372036854775806) : Calls Try.prog 70 #[ptr d, .agg (vtx v.id.f v.ck p)] w fun e w' => e = .returned (.bool (v.ps.all (hasB R.hs))) ∧ Below w.heap.size w w' := by
 obtain ⟨pa, pc, rfl⟩ := hr.form
 obtain ⟨vv, hvv⟩ : ∃ a : Array Value, Keep (a = vtx v.id.f v.ck (.slice pa v.ps.length pc)) := ⟨_, ⟨rfl⟩⟩
 rw [← hvv.out]
 have HD := Keep.mk hD
 have HR := Keep.mk hr
 have HI := Keep.mk hI
 have HL := Keep.mk hL
 clear hD hr hI hL
 go_enter Try.func70, Try.ntmps70
 refine wp_seq_k fun K1 hK1 => rgn ?_
 refine WL.box (by kernel_rfl) 39 (.tmp 1) rfl (vv) rfl ?_
 obtain ⟨w1, hwn⟩ : ∃ wx, Keep (wx = w.alloc (.cells (vv) 39)) := ⟨_, ⟨rfl⟩⟩
 rw [← hwn.out]
 have HX1 : Keep (Blk w1 w.heap.size 39 (vv)) := ⟨by rw [hwn.out]; exact Blk.new _ _ _⟩
 have LB1 : Keep (Below w.heap.size w w1) := ⟨by rw [hwn.out]; exact below_new _ _⟩
 clear hwn
 have HR1 := Keep.mk (HR.out.below LB1.out)
 have HD1 := Keep.mk (HD.out.below LB1.out)
 simp only [Act.put, pqA, pqB, pqC]
 refine VlS (.bool false) ?_
 refine WL.nil (hK1 _ _ ?_)
 refine wp_seq_k fun K2 hK2 => ?_
 refine wp_seq_k fun K3 hK3 => rgn ?_
 refine VlS (.int .i64 0) ?_
 refine WL.nil (hK3 _ _ ?_)
 refine wp_block ?_
 refine wp_loop (fun ac wr => ∃ (t : Nat) (u4 u6 u7 u8 u9 u10 u11 u12 u13 u14 u15 u16 u17 u18 u19 u20 u21 u22 : Value), ac = { tmps := #[.pointer (some ⟨d, 0, none⟩), .agg vv, undef, .pointer (some ⟨w.heap.size, 0, none⟩), u4, .int .i64 (t : Int), u6, u7, u8, u9, u10, u11, u12, u13, u14, u15, u16, u17, u18, u19, u20, u21, u22], defers := [] } ∧ t ≤ v.ps.length ∧ v.ps.all (hasB R.hs) = (v.ps.drop t).all (hasB R.hs) ∧ Below w1.heap.size w1 wr) (fun a _ => v.ps.length - (intOf (a.tmps.getD 5 undef)).toNat) ⟨0, .bool false, undef, undef, undef, undef, undef, undef, undef, undef, undef, undef, undef, undef, undef, undef, undef, undef, undef, rfl, by omega, rfl, Below.refl _ _⟩ ?_
 rintro ac wr ⟨t, u4, u6, u7, u8, u9, u10, u11, u12, u13, u14, u15, u16, u17, u18, u19, u20, u21, u22, rfl, ht, hP, hB⟩
 have JB := Keep.mk hB
 have JP := Keep.mk hP
 clear hB hP
 have HRr := Keep.mk (HR1.out.below JB.out)
 have HXr := Keep.mk (HX1.out.below JB.out HX1.out.lt)
 have HDr := Keep.mk (HD1.out.below JB.out)
 by_cases htl : t < v.ps.length
 ·have htl' : (t : Int) < (v.ps.length : Int) := by omega
  have hwr1 : IntKind.i64.wrap ((t : Int) + 1) = (t : Int) + 1 := by rw [IntKind.wrap_i64]; have := HL.out; omega
  obtain ⟨gp, op, hpa, -, -, hrg⟩ := (HRr.out).at (by omega)
  have hel := rangeAt_elem hrg t htl
  obtain ⟨hh, hhh⟩ : ∃ hh, hh = v.ps[t] := ⟨_, rfl⟩
  rw [← hhh] at hel
  have Jhh := Keep.mk hhh
  subst hpa
  clear hrg hhh
  refine wp_seq_k fun K4 hK4 => ?_
  refine wp_seq_k fun K5 hK5 => rgn ?_
  refine VlS (.int .i64 (t : Int)) ?_
  refine VlS (.pointer (some ⟨w.heap.size, 33, none⟩)) ?_
  have c33 : wr.cell? ⟨w.heap.size, 33, none⟩ = some (.slice (some ⟨gp, op, none⟩) v.ps.length pc) := HXr.out.c 33 (by rw [hvv.out]; exact vtx_ps _ _ _)
  refine WL.val (by kernel_rfl) (.slice (some ⟨gp, op, none⟩) v.ps.length pc) (by go_simp) ?_
  clear c33
  simp only [Act.put, pqA, pqB, pqC]
  refine VlS (.int .i64 (v.ps.length : Int)) ?_
  refine VlS (.bool true) ?_
  refine WL.nil (hK5 _ _ ?_)
  refine wp_cond_true rfl ?_
  refine wp_skip ?_
  refine hK4 _ _ ?_
  refine wp_seq_k fun K6 hK6 => ?_
  refine wp_block ?_
  refine wp_seq_k fun K7 hK7 => rgn ?_
  refine VlS (.pointer (some ⟨d, 0, none⟩)) ?_
  refine VlS (.pointer (some ⟨w.heap.size, 33, none⟩)) ?_
  have c33 : wr.cell? ⟨w.heap.size, 33, none⟩ = some (.slice (some ⟨gp, op, none⟩) v.ps.length pc) := HXr.out.c 33 (by rw [hvv.out]; exact vtx_ps _ _ _)
  refine WL.val (by kernel_rfl) (.slice (some ⟨gp, op, none⟩) v.ps.length pc) (by go_simp) ?_
  clear c33
  simp only [Act.put, pqA, pqB, pqC]
  refine VlS (.int .i64 (t : Int)) ?_
  refine VlS (.pointer (some ⟨gp, op + t * 32, none⟩)) ?_
  refine WL.mid (by kernel_rfl) 36 (.tmp 18) rfl gp (op + t * 32) rfl (encH hh) _ hel Try.underlying36 rfl (Try.size36L hh) ?_
  rw [enc_load]
  clear hel
  simp only [Act.put, pqA, pqB, pqC]
  refine WL.callF (by kernel_rfl) 46 _ _ rfl Try.in46 #[ptr d, .agg (bytesA 32 hh.f)] (by simp [Act.eval]) ?_
  refine (rhas_any d hh R wr HDr.out HI.out).mono ?_
  rintro e wz ⟨rfl, hz⟩
  refine ⟨_, rfl, ?_⟩
  have BZ := Keep.mk hz
  clear hz
  obtain ⟨bq, hbq⟩ : ∃ b, Keep (hasB R.hs hh = b) := ⟨_, ⟨rfl⟩⟩
  rw [hbq.out]
  simp only [Act.put, pqA, pqB, pqC]
  refine VlS (.bool bq) ?_
  refine WL.nil (hK7 _ _ ?_)
  refine wp_seq_k fun K8 hK8 => rgn ?_
  refine VlS (.bool bq) ?_
  by_cases h5_1 : bq = true
  ·skip
   refine VlS (.bool false) ?_
   refine WL.nil (hK8 _ _ ?_)
   refine wp_cond_false rfl ?_
   refine wp_skip ?_
   refine hK6 _ _ ?_
   refine rgn ?_
   refine VlS (.int .i64 (t : Int)) ?_
   refine VlS (.int .i64 ((t : Int) + 1)) ?_
   refine VlS (.int .i64 ((t : Int) + 1)) ?_
   refine WL.nil ?_
   refine ⟨⟨t + 1, u4, .bool bq, .int .i64 (t : Int), .pointer (some ⟨w.heap.size, 33, none⟩), .slice (some ⟨gp, op, none⟩) v.ps.length pc, .int .i64 (v.ps.length : Int), .bool true, .int .i64 (t : Int), .int .i64 ((t : Int) + 1), .pointer (some ⟨d, 0, none⟩), .pointer (some ⟨w.heap.size, 33, none⟩), .slice (some ⟨gp, op, none⟩) v.ps.length pc, .int .i64 (t : Int), .pointer (some ⟨gp, op + t * 32, none⟩), .agg (bytesA 32 hh.f), .bool bq, .bool bq, .bool false, rfl, by omega, ?_, belowT JB.out BZ.out⟩, ?_⟩
   ·rw [JP.out, List.drop_eq_getElem_cons htl, List.all_cons, ← Jhh.out, hbq.out, h5_1, Bool.true_and]
   ·simp only [intOf]; show v.ps.length - ((t : Int) + 1).toNat < v.ps.length - ((t : Int)).toNat; omega
  ·skip
   refine VlS (.bool true) ?_
   refine WL.nil (hK8 _ _ ?_)
   refine wp_cond_true rfl ?_
   refine wp_seq_k fun K9 hK9 => rgn ?_
   refine VlS (.bool false) ?_
   refine WL.nil (hK9 _ _ ?_)
   refine wp_ret ?_
   go_ret
   refine ⟨?_, belowT LB1.out (belowT JB.out BZ.out)⟩
   rw [JP.out, List.drop_eq_getElem_cons htl, List.all_cons, ← Jhh.out, hbq.out, Bool.eq_false_iff.2 h5_1, Bool.false_and]; rfl
 ·have hte : Keep (t = v.ps.length) := ⟨by omega⟩
  have htl' : ¬ (t : Int) < (v.ps.length : Int) := by omega
  refine wp_seq_k fun K10 hK10 => ?_
  refine wp_seq_k fun K11 hK11 => rgn ?_
  refine VlS (.int .i64 (t : Int)) ?_
  refine VlS (.pointer (some ⟨w.heap.size, 33, none⟩)) ?_
  have c33 : wr.cell? ⟨w.heap.size, 33, none⟩ = some (.slice pa v.ps.length pc) := HXr.out.c 33 (by rw [hvv.out]; exact vtx_ps _ _ _)
  refine WL.val (by kernel_rfl) (.slice pa v.ps.length pc) (by go_simp) ?_
  clear c33
  simp only [Act.put, pqA, pqB, pqC]
  refine VlS (.int .i64 (v.ps.length : Int)) ?_
  refine VlS (.bool false) ?_
  refine WL.nil (hK11 _ _ ?_)
  refine wp_cond_false rfl ?_
  refine wp_exit ?_
  refine hK2 _ _ ?_
  refine wp_seq_k fun K12 hK12 => rgn ?_
  refine VlS (.bool true) ?_
  refine WL.nil (hK12 _ _ ?_)
  refine wp_ret ?_
  go_ret
  refine ⟨?_, belowT LB1.out JB.out⟩
  rw [JP.out, hte.out, List.drop_length]; rfl
set_option maxRecDepth 8000 in
set_option maxHeartbeats 1000000 in
theorem rclock_any (d : Nat) (x : Hs) (R : RG) (w : World) (hD : RRd w d R) (hI : RI R) : Calls Try.prog 56 #[ptr d, .agg (bytesA 32 x.f)] w fun e w' => e = .returned (.int .i64 (ckOf R.hs x)) ∧ Below w.heap.size w w' := by
 have HD := Keep.mk hD
 have HI := Keep.mk hI
 clear hD hI
 go_enter Try.func56, Try.ntmps56
 refine wp_seq_k fun K1 hK1 => rgn ?_
 refine WL.box (by kernel_rfl) 36 (.tmp 1) rfl (bytesA 32 x.f) rfl ?_
 obtain ⟨w1, hwn⟩ : ∃ wx, Keep (wx = w.alloc (.cells (bytesA 32 x.f) 36)) := ⟨_, ⟨rfl⟩⟩
 rw [← hwn.out]
 have HX1 : Keep (Blk w1 w.heap.size 36 (bytesA 32 x.f)) := ⟨by rw [hwn.out]; exact Blk.new _ _ _⟩
 have LB1 : Keep (Below w.heap.size w w1) := ⟨by rw [hwn.out]; exact below_new _ _⟩
 clear hwn
 have HD1 := Keep.mk (HD.out.below LB1.out)
 simp only [Act.put, pqA, pqB, pqC]
 refine VlS (.int .i64 0) ?_
 refine WL.nil (hK1 _ _ ?_)
 refine wp_seq_k fun K2 hK2 => rgn ?_
 refine VlS (.pointer (some ⟨d, 0, none⟩)) ?_
 refine WL.row (by kernel_rfl) 36 (.tmp 3) rfl w.heap.size rfl 36 (bytesA 32 x.f) _ HX1.out Try.underlying36 rfl (Try.size36B _) ?_
 simp only [Act.put, pqA, pqB, pqC]
 refine WL.callF (by kernel_rfl) 46 _ _ rfl Try.in46 #[ptr d, .agg (bytesA 32 x.f)] (by simp [Act.eval]) ?_
 refine (rhas_any d x R w1 HD1.out HI.out).mono ?_
 rintro e w2 ⟨rfl, hz⟩
 refine ⟨_, rfl, ?_⟩
 have B2 := Keep.mk hz
 have HX2 := Keep.mk (HX1.out.below hz HX1.out.lt)
 have HD2 := Keep.mk (HD1.out.below hz)
 clear hz
 obtain ⟨bq, hbq⟩ : ∃ b, Keep (hasB R.hs x = b) := ⟨_, ⟨rfl⟩⟩
 rw [hbq.out]
 simp only [Act.put, pqA, pqB, pqC]
 refine VlS (.bool bq) ?_
 refine WL.nil (hK2 _ _ ?_)
 refine wp_seq_k fun K3 hK3 => ?_
 refine wp_seq_k fun K4 hK4 => rgn ?_
 refine VlS (.bool bq) ?_
 by_cases h2_1 : bq = true
 ·skip
  refine VlS (.bool false) ?_
  refine WL.nil (hK4 _ _ ?_)
  refine wp_cond_false rfl ?_
  refine wp_skip ?_
  refine hK3 _ _ ?_
  refine wp_seq_k fun K5 hK5 => ?_
  obtain ⟨m, hm, hmi, hmf⟩ := ixF_find (t := 0) (show hasB (R.held.map (·.1)) x = true by rw [← h2_1]; exact hbq.out)
  rw [Nat.zero_add] at hmi
  obtain ⟨hv, wv, sv, g1, g2, -, -⟩ := HD2.out
  obtain ⟨ha, hc, rfl⟩ := g2.form
  obtain ⟨gp, op, rfl, -, hrg⟩ := g2.at (by omega)
  have hgl := flatV_lt hrg (by omega)
  have Hcl := Keep.mk (flat_elem encV_len hrg m hm)
  have hS0 : Keep (∀ wx, Below w2.heap.size w2 wx → (fun wx => wx.cell? ⟨d, 1, none⟩ = some (.slice (some ⟨gp, op, none⟩) R.held.length hc) ∧ wx.rangeAt w.heap.size 0 (bytesA 32 x.f).toList) wx) := ⟨fun wx hb => ⟨(g1.below hb g1.lt).c 1 rfl, blk_rng (HX2.out.below hb HX2.out.lt)⟩⟩
  have BD : Keep (Below w2.heap.size w2 w2.drew) := ⟨(Below.refl _ _).drew⟩
  have HR2 := Keep.mk g2
  have HG := Keep.mk hgl
  have HMI := Keep.mk hmi
  have HMF := Keep.mk hmf
  have hml : (m : Int) < (R.held.length : Int) := by omega
  obtain ⟨kk, hkk⟩ : ∃ k, Keep (R.held[m].1.ck = k) := ⟨_, ⟨rfl⟩⟩
  clear g1 g2 hrg hgl hmi hmf
  refine wp_region_held_drew (S := fun wx => wx.cell? ⟨d, 1, none⟩ = some (.slice (some ⟨gp, op, none⟩) R.held.length hc) ∧ wx.rangeAt w.heap.size 0 (bytesA 32 x.f).toList) (by kernel_rfl) (hS0.out _ BD.out) (fun hHeld => ?_)
  refine tkS (i := 0) (oi := ⟨some 12, Op.move (Operand.tmp 0), 31, _, _, none⟩) (v := .pointer (some ⟨d, 0, none⟩)) rfl (Or.inl ⟨by rfl, fun w hS => by clear hS; go_simp⟩) hHeld ?_
  refine tkS (i := 1) (oi := ⟨some 13, Op.nilCheck (Operand.tmp 12), 0, _, _, none⟩) (v := .pointer (some ⟨d, 0, none⟩)) rfl (Or.inl ⟨by rfl, fun w hS => by clear hS; go_simp⟩) hHeld ?_
  refine tkS (i := 2) (oi := ⟨some 14, Op.fieldAddr 79 (Operand.tmp 13) 1, 0, _, _, none⟩) (v := .pointer (some ⟨d, 1, none⟩)) rfl (Or.inl ⟨by rfl, fun w hS => by clear hS; go_simp⟩) hHeld ?_
  refine tkS (i := 3) (oi := ⟨some 15, Op.load 55 (Operand.tmp 14), 55, _, _, none⟩) (v := .slice (some ⟨gp, op, none⟩) R.held.length hc) rfl (Or.inl ⟨by rfl, fun w hS => by obtain ⟨hS1, hS2⟩ := hS; clear hS2; go_simp⟩) hHeld ?_
  refine tkS (i := 4) (oi := ⟨some 16, Op.load 36 (Operand.tmp 3), 36, _, _, none⟩) (v := .agg (bytesA 32 x.f)) rfl (yieldsIf_ld (by rfl) (Operand.tmp 3) 36 rfl w.heap.size 0 rfl (bytesA 32 x.f) _ Try.underlying36 rfl (size36A _) fun w hS => hS.2) hHeld ?_
  refine wpAnyH_ready (rs := [5]) (by kernel_rfl) (by simp) ?_
  refine AllReadyH.cons (o := ⟨some 17, Op.call { callee := Callee.value (Operand.func 72), args := #[Operand.tmp 15, Operand.tmp 16], argTypes := #[55, 36] }, 3, _, _, none⟩) rfl (fun K hK => ?_) AllReadyH.nil
  rw [if_pos (by rfl)]
  have hcp := rplace_any (.slice (some ⟨gp, op, none⟩) R.held.length hc) R.held x w2.drew (HR2.out.below BD.out) (Nat.le_trans HI.out.hl (by omega))
  rw [HMI.out] at hcp
  refine wp_callF 72 _ _ rfl Try.in72 #[.slice (some ⟨gp, op, none⟩) R.held.length hc, .agg (bytesA 32 x.f)] (by simp [Act.eval]) (fun u wx => u = .int .i64 (m : Int) ∧ Below w2.drew.heap.size w2.drew wx) (hcp.mono fun e w' ⟨h1, h2⟩ => ⟨_, h1, rfl, h2⟩) ?_
  clear hcp
  rintro _ w5 ⟨rfl, hb⟩
  have K5 : Keep (Below w2.heap.size w2 w5) := ⟨belowT BD.out hb⟩
  refine hK _ _ (hS0.out _ K5.out) fun hH1 => ?_
  clear hK hb
  simp only [Act.put, pqA, pqB, pqC]
  refine tkS (i := 6) (oi := ⟨some 6, Op.assign (Operand.tmp 17), 3, _, _, none⟩) (v := .int .i64 (m : Int)) rfl (Or.inl ⟨by rfl, fun w hS => by clear hS; go_simp⟩) hH1 ?_
  refine wpAnyH_done (by kernel_rfl) ?_ _
  refine hK5 _ _ ?_
  refine wp_seq_k fun K6 hK6 => rgn ?_
  refine VlS (.pointer (some ⟨d, 0, none⟩)) ?_
  refine VlS (.pointer (some ⟨d, 0, none⟩)) ?_
  refine VlS (.pointer (some ⟨d, 1, none⟩)) ?_
  have c1 := (hS0.out _ K5.out).1
  refine WL.val (by kernel_rfl) (.slice (some ⟨gp, op, none⟩) R.held.length hc) (by go_simp) ?_
  clear c1
  simp only [Act.put, pqA, pqB, pqC]
  refine VlS (.int .i64 (m : Int)) ?_
  refine VlS (.pointer (some ⟨gp, op + m * 34, none⟩)) ?_
  refine VlS (.pointer (some ⟨gp, op + m * 34 + 32, none⟩)) ?_
  have ck : w5.cell? ⟨gp, op + m * 34 + 32, none⟩ = some (.int .i64 kk) := rangeAt_below Hcl.out K5.out HG.out 32 _ (by rw [encV, Array.getElem?_toList, vtx_ck, hkk.out])
  refine WL.val (by kernel_rfl) (.int .i64 kk) (by go_simp) ?_
  clear ck
  simp only [Act.put, pqA, pqB, pqC]
  refine VlS (.int .i64 kk) ?_
  refine WL.nil (hK6 _ _ ?_)
  refine wp_ret ?_
  go_ret
  refine ⟨?_, belowT LB1.out (belowT B2.out K5.out)⟩
  rw [ckOf, RG.hs, HMF.out]
  simp only [hkk.out]
  rfl
 ·skip
  refine VlS (.bool true) ?_
  refine WL.nil (hK4 _ _ ?_)
  refine wp_cond_true rfl ?_
  refine wp_seq_k fun K7 hK7 => rgn ?_
  refine VlS (.int .i64 0) ?_
  refine WL.nil (hK7 _ _ ?_)
  refine wp_ret ?_
  go_ret
  refine ⟨?_, belowT LB1.out B2.out⟩
  rw [ckOf_no (by rw [hbq.out]; exact Bool.eq_false_iff.2 h2_1)]; rfl
end Go.Proofs.Ytogmdfhicbmplaa
namespace Go.Proofs.Ytogmdfhicbmplaa
open Go.RowKit
set_option linter.unusedSimpArgs false
set_option linter.unusedVariables false

theorem Try.in88 (w : World) (vs : Array Value) : (callFunc 88 vs).run Try.prog w = .ok (.enter 88 vs) w := by kernel_rfl
theorem Try.in71 (w : World) (vs : Array Value) : (callFunc 71 vs).run Try.prog w = .ok (.enter 71 vs) w := by kernel_rfl
set_option maxRecDepth 8000 in
set_option maxHeartbeats 1000000 in
theorem rfits_any (d : Nat) (v : VX) (p : Value) (R : RG) (w : World) (hD : RRd w d R) (hI : RI R) (hr : HRow w p v.ps) (hL : (v.ps.length : Int) ≤ 9223372036854775806) : Calls Try.prog 88 #[ptr d, .agg (vtx v.id.f v.ck p)] w fun e w' => e = .returned (.bool (decide (v.ck = mxC R.hs v.ps + 1))) ∧ Below w.heap.size w w' := by
 obtain ⟨pa, pc, rfl⟩ := hr.form
 obtain ⟨vv, hvv⟩ : ∃ a : Array Value, Keep (a = vtx v.id.f v.ck (.slice pa v.ps.length pc)) := ⟨_, ⟨rfl⟩⟩
 rw [← hvv.out]
 have HD := Keep.mk hD
 have HR := Keep.mk hr
 have HI := Keep.mk hI
 have HL := Keep.mk hL
 clear hD hr hI hL
 go_enter Try.func88, Try.ntmps88
 refine wp_seq_k fun K1 hK1 => rgn ?_
 refine WL.box (by kernel_rfl) 39 (.tmp 1) rfl (vv) rfl ?_
 obtain ⟨w1, hwn⟩ : ∃ wx, Keep (wx = w.alloc (.cells (vv) 39)) := ⟨_, ⟨rfl⟩⟩
 rw [← hwn.out]
 have HX1 : Keep (Blk w1 w.heap.size 39 (vv)) := ⟨by rw [hwn.out]; exact Blk.new _ _ _⟩
 have LB1 : Keep (Below w.heap.size w w1) := ⟨by rw [hwn.out]; exact below_new _ _⟩
 clear hwn
 have HR1 := Keep.mk (HR.out.below LB1.out)
 have HD1 := Keep.mk (HD.out.below LB1.out)
 simp only [Act.put, pqA, pqB, pqC]
 refine VlS (.bool false) ?_
 refine WL.nil (hK1 _ _ ?_)
 refine wp_seq_k fun K2 hK2 => rgn ?_
 refine VlS (.int .i64 0) ?_
 refine WL.nil (hK2 _ _ ?_)
 refine wp_seq_k fun K3 hK3 => ?_
 refine wp_seq_k fun K4 hK4 => rgn ?_
 refine VlS (.int .i64 0) ?_
 refine WL.nil (hK4 _ _ ?_)
 refine wp_block ?_
 refine wp_loop (fun ac wr => ∃ (t : Nat) (u7 u8 u9 u10 u11 u12 u13 u14 u15 u16 u17 u18 u19 u20 u21 u22 : Value) (mo : Int), ac = { tmps := #[.pointer (some ⟨d, 0, none⟩), .agg vv, undef, .pointer (some ⟨w.heap.size, 0, none⟩), .bool false, .int .i64 mo, .int .i64 (t : Int), u7, u8, u9, u10, u11, u12, u13, u14, u15, u16, u17, u18, u19, u20, u21, u22, undef, undef, undef, undef, undef], defers := [] } ∧ t ≤ v.ps.length ∧ (0 ≤ mo ∧ mo ≤ 4096) ∧ v.ps.foldl (fun m h => if ckOf R.hs h > m then ckOf R.hs h else m) 0 = (v.ps.drop t).foldl (fun m h => if ckOf R.hs h > m then ckOf R.hs h else m) mo ∧ Below w1.heap.size w1 wr) (fun a _ => v.ps.length - (intOf (a.tmps.getD 6 undef)).toNat) ⟨0, undef, undef, undef, undef, undef, undef, undef, undef, undef, undef, undef, undef, undef, undef, undef, undef, 0, rfl, by omega, by omega, rfl, Below.refl _ _⟩ ?_
 rintro ac wr ⟨t, u7, u8, u9, u10, u11, u12, u13, u14, u15, u16, u17, u18, u19, u20, u21, u22, mo, rfl, ht, hmo, hP, hB⟩
 have JB := Keep.mk hB
 have JP := Keep.mk hP
 clear hB hP
 have HRr := Keep.mk (HR1.out.below JB.out)
 have HXr := Keep.mk (HX1.out.below JB.out HX1.out.lt)
 have HDr := Keep.mk (HD1.out.below JB.out)
 by_cases htl : t < v.ps.length
 ·have htl' : (t : Int) < (v.ps.length : Int) := by omega
  have hwr1 : IntKind.i64.wrap ((t : Int) + 1) = (t : Int) + 1 := by rw [IntKind.wrap_i64]; have := HL.out; omega
  obtain ⟨gp, op, hpa, -, -, hrg⟩ := (HRr.out).at (by omega)
  have hel := rangeAt_elem hrg t htl
  obtain ⟨hh, hhh⟩ : ∃ hh, hh = v.ps[t] := ⟨_, rfl⟩
  rw [← hhh] at hel
  have Jhh := Keep.mk hhh
  subst hpa
  clear hrg hhh
  refine wp_seq_k fun K5 hK5 => ?_
  refine wp_seq_k fun K6 hK6 => rgn ?_
  refine VlS (.int .i64 (t : Int)) ?_
  refine VlS (.pointer (some ⟨w.heap.size, 33, none⟩)) ?_
  have c33 : wr.cell? ⟨w.heap.size, 33, none⟩ = some (.slice (some ⟨gp, op, none⟩) v.ps.length pc) := HXr.out.c 33 (by rw [hvv.out]; exact vtx_ps _ _ _)
  refine WL.val (by kernel_rfl) (.slice (some ⟨gp, op, none⟩) v.ps.length pc) (by go_simp) ?_
  clear c33
  simp only [Act.put, pqA, pqB, pqC]
  refine VlS (.int .i64 (v.ps.length : Int)) ?_
  refine VlS (.bool true) ?_
  refine WL.nil (hK6 _ _ ?_)
  refine wp_cond_true rfl ?_
  refine wp_skip ?_
  refine hK5 _ _ ?_
  refine wp_seq_k fun K7 hK7 => ?_
  refine wp_block ?_
  refine rgn ?_
  refine VlS (.int .i64 mo) ?_
  refine VlS (.pointer (some ⟨d, 0, none⟩)) ?_
  refine VlS (.pointer (some ⟨w.heap.size, 33, none⟩)) ?_
  have c33 : wr.cell? ⟨w.heap.size, 33, none⟩ = some (.slice (some ⟨gp, op, none⟩) v.ps.length pc) := HXr.out.c 33 (by rw [hvv.out]; exact vtx_ps _ _ _)
  refine WL.val (by kernel_rfl) (.slice (some ⟨gp, op, none⟩) v.ps.length pc) (by go_simp) ?_
  clear c33
  simp only [Act.put, pqA, pqB, pqC]
  refine VlS (.int .i64 (t : Int)) ?_
  refine VlS (.pointer (some ⟨gp, op + t * 32, none⟩)) ?_
  refine WL.mid (by kernel_rfl) 36 (.tmp 19) rfl gp (op + t * 32) rfl (encH hh) _ hel Try.underlying36 rfl (Try.size36L hh) ?_
  rw [enc_load]
  clear hel
  simp only [Act.put, pqA, pqB, pqC]
  refine WL.callF (by kernel_rfl) 56 _ _ rfl Try.in56 #[ptr d, .agg (bytesA 32 hh.f)] (by simp [Act.eval]) ?_
  refine (rclock_any d hh R wr HDr.out HI.out).mono ?_
  rintro e wz ⟨rfl, hz⟩
  refine ⟨_, rfl, ?_⟩
  have BZ := Keep.mk hz
  clear hz
  obtain ⟨kk, hkk⟩ : ∃ b, Keep (ckOf R.hs hh = b) := ⟨_, ⟨rfl⟩⟩
  have hkb := ckOf_le HI.out.ck hh
  rw [hkk.out] at hkb
  rw [hkk.out]
  have hmx : max mo kk = (if kk > mo then kk else mo) := by split <;> omega
  obtain ⟨mn, hmn⟩ : ∃ b, Keep ((if kk > mo then kk else mo) = b) := ⟨_, ⟨rfl⟩⟩
  rw [hmn.out] at hmx
  simp only [Act.put, pqA, pqB, pqC]
  refine VlS (.int .i64 mn) ?_
  refine VlS (.int .i64 mn) ?_
  refine WL.nil (hK7 _ _ ?_)
  refine rgn ?_
  refine VlS (.int .i64 (t : Int)) ?_
  refine VlS (.int .i64 ((t : Int) + 1)) ?_
  refine VlS (.int .i64 ((t : Int) + 1)) ?_
  refine WL.nil ?_
  refine ⟨⟨t + 1, .int .i64 (t : Int), .pointer (some ⟨w.heap.size, 33, none⟩), .slice (some ⟨gp, op, none⟩) v.ps.length pc, .int .i64 (v.ps.length : Int), .bool true, .int .i64 (t : Int), .int .i64 ((t : Int) + 1), .int .i64 mo, .pointer (some ⟨d, 0, none⟩), .pointer (some ⟨w.heap.size, 33, none⟩), .slice (some ⟨gp, op, none⟩) v.ps.length pc, .int .i64 (t : Int), .pointer (some ⟨gp, op + t * 32, none⟩), .agg (bytesA 32 hh.f), .int .i64 kk, .int .i64 mn, mn, rfl, by omega, by omega, ?_, belowT JB.out BZ.out⟩, ?_⟩
  ·rw [JP.out, List.drop_eq_getElem_cons htl, List.foldl_cons, ← Jhh.out, hkk.out, hmn.out]
  ·simp only [intOf]; show v.ps.length - ((t : Int) + 1).toNat < v.ps.length - ((t : Int)).toNat; omega
 ·have hte : Keep (t = v.ps.length) := ⟨by omega⟩
  have htl' : ¬ (t : Int) < (v.ps.length : Int) := by omega
  have hwm : IntKind.i64.wrap (mo + 1) = mo + 1 := by rw [IntKind.wrap_i64]; omega
  have c32 : wr.cell? ⟨w.heap.size, 32, none⟩ = some (.int .i64 v.ck) := HXr.out.c 32 (by rw [hvv.out]; exact vtx_ck _ _ _)
  have hmo : Keep (mxC R.hs v.ps = mo) := ⟨by rw [mxC, JP.out, hte.out, List.drop_length]; rfl⟩
  refine wp_seq_k fun K8 hK8 => ?_
  refine wp_seq_k fun K9 hK9 => rgn ?_
  refine VlS (.int .i64 (t : Int)) ?_
  refine VlS (.pointer (some ⟨w.heap.size, 33, none⟩)) ?_
  have c33 : wr.cell? ⟨w.heap.size, 33, none⟩ = some (.slice pa v.ps.length pc) := HXr.out.c 33 (by rw [hvv.out]; exact vtx_ps _ _ _)
  refine WL.val (by kernel_rfl) (.slice pa v.ps.length pc) (by go_simp) ?_
  clear c33
  simp only [Act.put, pqA, pqB, pqC]
  refine VlS (.int .i64 (v.ps.length : Int)) ?_
  refine VlS (.bool false) ?_
  refine WL.nil (hK9 _ _ ?_)
  refine wp_cond_false rfl ?_
  refine wp_exit ?_
  refine hK3 _ _ ?_
  refine wp_seq_k fun K10 hK10 => rgn ?_
  refine VlS (.pointer (some ⟨w.heap.size, 32, none⟩)) ?_
  refine VlS (.int .i64 v.ck) ?_
  refine VlS (.int .i64 mo) ?_
  refine VlS (.int .i64 (mo + 1)) ?_
  by_cases h6_4 : v.ck = mo + 1
  ·skip
   refine VlS (.bool true) ?_
   refine VlS (.bool true) ?_
   refine WL.nil (hK10 _ _ ?_)
   refine wp_ret ?_
   go_ret
   refine ⟨?_, belowT LB1.out JB.out⟩
   rw [hmo.out]
   simp [h6_4]; try rfl
  ·skip
   refine VlS (.bool false) ?_
   refine VlS (.bool false) ?_
   refine WL.nil (hK10 _ _ ?_)
   refine wp_ret ?_
   go_ret
   refine ⟨?_, belowT LB1.out JB.out⟩
   rw [hmo.out]
   simp [h6_4]; try rfl
set_option maxRecDepth 8000 in
set_option maxHeartbeats 1000000 in
theorem rmay_any (d : Nat) (v : VX) (p : Value) (R : RG) (w : World) (hD : RRd w d R) (hI : RI R) (hr : HRow w p v.ps) (hL : (v.ps.length : Int) ≤ 9223372036854775806) : Calls Try.prog 71 #[ptr d, .agg (vtx v.id.f v.ck p)] w fun e w' => e = .returned (.int .i64 (nextE R.hs v)) ∧ Below w.heap.size w w' := by
 obtain ⟨pa, pc, rfl⟩ := hr.form
 obtain ⟨vv, hvv⟩ : ∃ a : Array Value, Keep (a = vtx v.id.f v.ck (.slice pa v.ps.length pc)) := ⟨_, ⟨rfl⟩⟩
 rw [← hvv.out]
 have HD := Keep.mk hD
 have HR := Keep.mk hr
 have HI := Keep.mk hI
 have HL := Keep.mk hL
 clear hD hr hI hL
 go_enter Try.func71, Try.ntmps71
 refine wp_seq_k fun K1 hK1 => rgn ?_
 refine WL.box (by kernel_rfl) 39 (.tmp 1) rfl (vv) rfl ?_
 obtain ⟨w1, hwn⟩ : ∃ wx, Keep (wx = w.alloc (.cells (vv) 39)) := ⟨_, ⟨rfl⟩⟩
 rw [← hwn.out]
 have HX1 : Keep (Blk w1 w.heap.size 39 (vv)) := ⟨by rw [hwn.out]; exact Blk.new _ _ _⟩
 have LB1 : Keep (Below w.heap.size w w1) := ⟨by rw [hwn.out]; exact below_new _ _⟩
 clear hwn
 have HR1 := Keep.mk (HR.out.below LB1.out)
 have HD1 := Keep.mk (HD.out.below LB1.out)
 simp only [Act.put, pqA, pqB, pqC]
 refine VlS (.int .i64 0) ?_
 refine WL.nil (hK1 _ _ ?_)
 refine wp_seq_k fun K2 hK2 => rgn ?_
 refine VlS (.pointer (some ⟨d, 0, none⟩)) ?_
 refine WL.row (by kernel_rfl) 39 (.tmp 3) rfl w.heap.size rfl 39 vv _ HX1.out Try.underlying39 rfl (by rw [hvv.out]; exact Try.info39s _ _ _) ?_
 simp only [Act.put, pqA, pqB, pqC]
 have hft := rfits_any d v _ R w1 HD1.out HI.out HR1.out HL.out
 rw [← hvv.out] at hft
 refine WL.callF (by kernel_rfl) 88 _ _ rfl Try.in88 #[ptr d, .agg vv] (by simp [Act.eval]) ?_
 refine (hft).mono ?_
 rintro e w2 ⟨rfl, hz⟩
 refine ⟨_, rfl, ?_⟩
 clear hft
 have B2 := Keep.mk hz
 have HD2 := Keep.mk (HD1.out.below hz)
 clear hz
 obtain ⟨bq, hbq⟩ : ∃ b, Keep (decide (v.ck = mxC R.hs v.ps + 1) = b) := ⟨_, ⟨rfl⟩⟩
 rw [hbq.out]
 simp only [Act.put, pqA, pqB, pqC]
 refine VlS (.bool bq) ?_
 refine WL.nil (hK2 _ _ ?_)
 refine wp_seq_k fun K3 hK3 => ?_
 refine wp_seq_k fun K4 hK4 => rgn ?_
 refine VlS (.bool bq) ?_
 by_cases h2_1 : bq = true
 ·skip
  refine VlS (.bool false) ?_
  refine WL.nil (hK4 _ _ ?_)
  refine wp_cond_false rfl ?_
  refine wp_skip ?_
  refine hK3 _ _ ?_
  refine wp_seq_k fun K5 hK5 => ?_
  refine wp_seq_k fun K6 hK6 => ?_
  obtain ⟨hv, wv, sv, g1, g2, -, -⟩ := HD2.out
  obtain ⟨ha, hc, rfl⟩ := g2.form
  have c1 : w2.cell? ⟨d, 1, none⟩ = some (.slice ha R.held.length hc) := g1.c 1 rfl
  clear g1 g2
  have hff := of_decide_eq_true (hbq.out.trans h2_1)
  have hhl : R.hs.length = R.held.length := List.length_map _
  refine rgn ?_
  refine VlS (.pointer (some ⟨d, 0, none⟩)) ?_
  refine VlS (.pointer (some ⟨d, 0, none⟩)) ?_
  refine VlS (.pointer (some ⟨d, 1, none⟩)) ?_
  refine VlS (.slice ha R.held.length hc) ?_
  refine VlS (.int .i64 (R.held.length : Int)) ?_
  by_cases h4_5 : (4096 : Int) ≤ (R.held.length : Int)
  ·skip
   refine VlS (.bool true) ?_
   refine WL.nil (hK6 _ _ ?_)
   refine wp_cond_true rfl ?_
   refine wp_seq_k fun K7 hK7 => rgn ?_
   refine VlS (.int .i64 3) ?_
   refine WL.nil (hK7 _ _ ?_)
   refine wp_ret ?_
   go_ret
   refine ⟨?_, belowT LB1.out B2.out⟩
   rw [nextE, if_neg (by simpa using hff)]
   rw [if_pos (by omega)]; rfl
  ·skip
   refine VlS (.bool false) ?_
   refine WL.nil (hK6 _ _ ?_)
   refine wp_cond_false rfl ?_
   refine wp_skip ?_
   refine hK5 _ _ ?_
   refine wp_seq_k fun K8 hK8 => rgn ?_
   refine VlS (.int .i64 0) ?_
   refine WL.nil (hK8 _ _ ?_)
   refine wp_ret ?_
   go_ret
   refine ⟨?_, belowT LB1.out B2.out⟩
   rw [nextE, if_neg (by simpa using hff)]
   rw [if_neg (by omega)]; rfl
 ·skip
  refine VlS (.bool true) ?_
  refine WL.nil (hK4 _ _ ?_)
  refine wp_cond_true rfl ?_
  refine wp_seq_k fun K9 hK9 => rgn ?_
  refine VlS (.int .i64 51) ?_
  refine WL.nil (hK9 _ _ ?_)
  refine wp_ret ?_
  go_ret
  refine ⟨?_, belowT LB1.out B2.out⟩
  rw [nextE, if_pos (of_decide_eq_false (hbq.out.trans (Bool.eq_false_iff.2 h2_1)))]; rfl
end Go.Proofs.Ytogmdfhicbmplaa
