import Derived.Test.YtennogmeeefopaaDoorA09
import Derived.Test.YtennogmeeefopaaDoorA05
import Derived.Deep.RegionHeld3
import Derived.Lib.Small
namespace Go.Proofs.YtennogmeeefopaaDoor
open Go.RowKit
set_option linter.unusedSimpArgs false
set_option linter.unusedVariables false

theorem Tryd.in13 (w : World) (vs : Array Value) : (callFunc 13 vs).run Tryd.prog w = .ok (.enter 13 vs) w := by kernel_rfl
set_option maxRecDepth 8000 in
set_option maxHeartbeats 4000000 in
theorem dlay_any (r : Int) (v : Value) (ks : List PF) (w : World) (hX : FilesAt w v ks) (hL : ks.length ≤ 1000000000000) (hU : usd ks ≤ 1000000000) :
  Calls Tryd.prog 13 #[.int .i64 r, v] w fun e w' => ∃ ps pd ph vf cs, e = .returned (.tuple #[ptr pd, ptr ph]) ∧ DskAt w' ps vf cs (layD r ks) ∧ Blk w' pd 75 #[ptr ps] ∧ Blk w' ph 77 #[ptr ps] ∧ (w.heap.size ≤ ps ∧ w.heap.size ≤ pd ∧ w.heap.size ≤ ph) ∧ (∀ k, DskS ps vf cs k → w.heap.size ≤ k) ∧ Below w.heap.size w w' := by
 obtain ⟨ka, kc, rfl⟩ := hX.form
 have HX := Keep.mk hX
 have HL := Keep.mk hL
 have HU := Keep.mk hU
 clear hX hL hU
 go_enter Tryd.func13, Tryd.ntmps13
 refine wp_seq_k fun K1 hK1 => rgn ?_
 refine VlS (.pointer none) ?_
 refine VlS (.pointer none) ?_
 refine WL.nil (hK1 _ _ ?_)
 refine wp_seq_k fun K2 hK2 => rgn ?_
 refine VlS (.int .i64 r) ?_
 refine WL.callF (by kernel_rfl) 9 _ _ rfl Tryd.in9 #[.int .i64 r] (by simp [Act.eval]) ?_
 refine (dnew_any r w).mono ?_
 rintro e w1 ⟨ps, pd, ph, rfl, h1, h2, h3, h4, h5, h6, h7⟩
 refine ⟨_, rfl, ?_⟩
 have D1 := Keep.mk h1
 have P1 := Keep.mk h2
 have Q1 := Keep.mk h3
 have L1 : Keep (w.heap.size ≤ ps ∧ w.heap.size ≤ pd ∧ w.heap.size ≤ ph) := ⟨h4, h5, h6⟩
 have B1 := Keep.mk h7
 clear h1 h2 h3 h4 h5 h6 h7
 have c0 := P1.out.c 0 (by rfl : (#[ptr ps] : Array Value)[0]? = some (ptr ps))
 simp only [Act.put, pqA, pqB, pqC]
 refine VlS (.tuple #[.pointer (some ⟨pd, 0, none⟩), .pointer (some ⟨ph, 0, none⟩)]) ?_
 refine VlS (.pointer (some ⟨pd, 0, none⟩)) ?_
 refine VlS (.pointer (some ⟨ph, 0, none⟩)) ?_
 refine VlS (.pointer (some ⟨pd, 0, none⟩)) ?_
 refine VlS (.pointer (some ⟨ph, 0, none⟩)) ?_
 refine WL.nil (hK2 _ _ ?_)
 refine wp_seq_k fun K3 hK3 => rgn ?_
 refine VlS (.pointer (some ⟨pd, 0, none⟩)) ?_
 refine VlS (.pointer (some ⟨pd, 0, none⟩)) ?_
 refine VlS (.pointer (some ⟨pd, 0, none⟩)) ?_
 refine VlS (.pointer (some ⟨ps, 0, none⟩)) ?_
 refine VlS (.pointer (some ⟨ps, 0, none⟩)) ?_
 refine WL.nil (hK3 _ _ ?_)
 refine wp_seq_k fun K4 hK4 => ?_
 refine wp_seq_k fun K5 hK5 => rgn ?_
 refine VlS (.slice ka ks.length kc) ?_
 refine VlS (.int .i64 (ks.length : Int)) ?_
 refine VlS (.int .i64 0) ?_
 refine WL.nil (hK5 _ _ ?_)
 refine wp_block ?_
 have S0 : ∀ k, DskS ps (.slice none 0 0) [] k → w.heap.size ≤ k := fun k h => by
  rcases h with h | h | ⟨_, _, h, _⟩
  ·rw [h]; exact L1.out.1
  ·simp [Value.ownBlock] at h
  ·simp at h
 refine wp_loop (fun ac wr => ∃ (fz : Nat → Value) (t : Nat) (vf : Value) (cs : List FC) (Dt : DV), ac = { tmps := #[.int .i64 r, .slice ka ks.length kc, undef, undef, .pointer none, .pointer none, .pointer (some ⟨pd, 0, none⟩), .pointer (some ⟨ph, 0, none⟩), .pointer (some ⟨ps, 0, none⟩), undef, fz 10, fz 11, fz 12, fz 13, .tuple #[.pointer (some ⟨pd, 0, none⟩), .pointer (some ⟨ph, 0, none⟩)], .int .i64 r, .tuple #[.pointer (some ⟨pd, 0, none⟩), .pointer (some ⟨ph, 0, none⟩)], .pointer (some ⟨pd, 0, none⟩), .pointer (some ⟨ph, 0, none⟩), .pointer (some ⟨pd, 0, none⟩), .pointer (some ⟨pd, 0, none⟩), .pointer (some ⟨pd, 0, none⟩), .pointer (some ⟨ps, 0, none⟩), .slice ka ks.length kc, .int .i64 (ks.length : Int), .int .i64 (t : Int), fz 26, fz 27, fz 28, fz 29, fz 30, fz 31, fz 32, fz 33, fz 34, fz 35, fz 36, fz 37, fz 38, fz 39, fz 40, fz 41, fz 42, fz 43, fz 44, fz 45, fz 46, fz 47, fz 48, fz 49, fz 50, fz 51, fz 52, fz 53, fz 54, fz 55, fz 56, fz 57, fz 58, fz 59, fz 60, fz 61, fz 62, fz 63, fz 64, fz 65, fz 66, fz 67, fz 68, fz 69, fz 70, fz 71, fz 72, fz 73, fz 74, fz 75, fz 76, fz 77, fz 78, fz 79, fz 80, fz 81, fz 82, fz 83, fz 84, fz 85, fz 86, fz 87, fz 88, fz 89, fz 90, fz 91, fz 92, fz 93, fz 94, fz 95, fz 96, fz 97, undef, undef, undef, undef, undef, undef, undef, undef, undef, undef, undef, undef, undef, undef], defers := [] } ∧ t ≤ ks.length ∧ Dt = ⟨layT (ks.take t), max 0 r, usd (layT (ks.take t)), -1, false, 0⟩ ∧ DskAt wr ps vf cs Dt ∧ (∀ k, DskS ps vf cs k → w.heap.size ≤ k) ∧ Blk wr pd 75 #[ptr ps] ∧ Blk wr ph 77 #[ptr ps] ∧ Below w.heap.size w wr) (fun a _ => ks.length - (intOf (a.tmps.getD 25 undef)).toNat) ⟨fun zz => [.int .i64 r, .slice ka ks.length kc, undef, undef, .pointer none, .pointer none, .pointer (some ⟨pd, 0, none⟩), .pointer (some ⟨ph, 0, none⟩), .pointer (some ⟨ps, 0, none⟩), undef, undef, undef, undef, undef, .tuple #[.pointer (some ⟨pd, 0, none⟩), .pointer (some ⟨ph, 0, none⟩)], .int .i64 r, .tuple #[.pointer (some ⟨pd, 0, none⟩), .pointer (some ⟨ph, 0, none⟩)], .pointer (some ⟨pd, 0, none⟩), .pointer (some ⟨ph, 0, none⟩), .pointer (some ⟨pd, 0, none⟩), .pointer (some ⟨pd, 0, none⟩), .pointer (some ⟨pd, 0, none⟩), .pointer (some ⟨ps, 0, none⟩), .slice ka ks.length kc, .int .i64 (ks.length : Int), .int .i64 0, undef, undef, undef, undef, undef, undef, undef, undef, undef, undef, undef, undef, undef, undef, undef, undef, undef, undef, undef, undef, undef, undef, undef, undef, undef, undef, undef, undef, undef, undef, undef, undef, undef, undef, undef, undef, undef, undef, undef, undef, undef, undef, undef, undef, undef, undef, undef, undef, undef, undef, undef, undef, undef, undef, undef, undef, undef, undef, undef, undef, undef, undef, undef, undef, undef, undef, undef, undef, undef, undef, undef, undef, undef, undef, undef, undef, undef, undef, undef, undef, undef, undef, undef, undef, undef, undef].getD zz undef, 0, .slice none 0 0, [], _, rfl, Nat.zero_le _, rfl, D1.out, S0, P1.out, Q1.out, B1.out⟩ ?_
 clear S0 D1 P1 Q1 B1 c0
 rintro ac wr ⟨fz, t, vf, cs, Dt, rfl, ht, hJ1, hJ2, hJ3, hJ4, hJ5, hJ6⟩
 obtain ⟨va, vc, rfl⟩ := hJ2.own.sl
 have JE := Keep.mk hJ1
 have JD := Keep.mk hJ2
 have JS := Keep.mk hJ3
 have JP := Keep.mk hJ4
 have JQ := Keep.mk hJ5
 have JB := Keep.mk hJ6
 clear hJ1 hJ2 hJ3 hJ4 hJ5 hJ6
 by_cases hlt : t < ks.length
 ·have hlt' : (t : Int) < (ks.length : Int) := by omega
  have hwt : IntKind.i64.wrap ((t : Int) + 1) = (t : Int) + 1 := by rw [IntKind.wrap_i64]; have := HL.out; omega
  obtain ⟨x, hx⟩ : ∃ x, ks[t]? = some x := ⟨ks[t], List.getElem?_eq_getElem hlt⟩
  obtain ⟨q, ko, y, hq, hrg, hy1, hy2, hy3⟩ := (HX.out.below (JB.out.mono (Nat.le_refl _))).at hx
  subst hq
  obtain ⟨xn, xb, xs⟩ := y
  obtain ⟨xa, xc, hxb⟩ := row_form hy3
  change xb = _ at hxb
  subst hxb
  have HKx := Keep.mk hx
  have HRg := Keep.mk hrg
  have HXn : Keep (xn = x.nm) := ⟨hy1⟩
  have HXs : Keep (xs = x.sf) := ⟨hy2⟩
  have HXr := Keep.mk hy3
  have LOk : Keep (LayOk Dt.fs) := ⟨by rw [JE.out]; exact layT_ok ks t⟩
  have HUx : Keep ((x.bs.length : Int) ≤ 1000000000 ∧ 0 ≤ Dt.used ∧ Dt.used + (x.bs.length : Int) ≤ 1000000000) := ⟨by
   have h1 := usd_mem hx
   have h2 := layT_usd ks t
   have h3 := HU.out
   have h4 := usd_nonneg (layT (ks.take t))
   have h5 := usd_at hx
   have h6 : Dt.used = usd (layT (ks.take t)) := by rw [JE.out]
   omega⟩
  clear hx hrg hy1 hy2 hy3
  refine wp_seq_k fun K6 hK6 => rgn ?_
  refine VlS (.bool true) ?_
  refine WL.nil (hK6 _ _ ?_)
  refine wp_seq_k fun K7 hK7 => ?_
  refine wp_cond_true rfl ?_
  refine wp_skip ?_
  refine hK7 _ _ ?_
  refine wp_seq_k fun K8 hK8 => ?_
  refine wp_block ?_
  refine wp_seq_k fun K9 hK9 => rgn ?_
  refine VlS (.pointer (some ⟨q, ko + t * 3, none⟩)) ?_
  refine WL.mid (by kernel_rfl) 70 (.tmp 27) rfl q (ko + t * 3) rfl (fA (⟨xn, .slice xa x.bs.length xc, xs⟩ : FC)).toList _ HRg.out Tryd.underlying70 rfl (Tryd.sizeFL (⟨xn, .slice xa x.bs.length xc, xs⟩ : FC)) ?_
  rw [fA_back]
  simp only [Act.put, pqA, pqB, pqC]
  refine WL.new (by kernel_rfl) 70 rfl _ Tryd.newF ?_
  have HN := Keep.mk (Blk.new wr 70 (fA zeroF))
  have BN := Keep.mk (below_new wr (.cells (fA zeroF) 70))
  generalize wr.alloc (.cells (fA zeroF) 70) = wa at *
  obtain ⟨g7, hg7⟩ : ∃ g, Keep (g = wr.heap.size) := ⟨_, ⟨rfl⟩⟩
  rw [← hg7.out] at HN ⊢
  simp only [Act.put, pqA, pqB, pqC]
  refine WL.storeR (by kernel_rfl) 70 (.tmp 10) (.tmp 28) rfl g7 (fA (⟨xn, .slice xa x.bs.length xc, xs⟩ : FC)) rfl rfl 70 (fA zeroF) HN.out (Tryd.sizeFB _) rfl (SlF.one ⟨_, _, _, rfl⟩) ?_
  have H7 := Keep.mk (HN.out.setRow (fA (⟨xn, .slice xa x.bs.length xc, xs⟩ : FC)))
  have B7 := Keep.mk (below_setRow BN.out (b := g7) (by rw [hg7.out]; exact Nat.le_refl _) (fA (⟨xn, .slice xa x.bs.length xc, xs⟩ : FC)))
  have L7 : Keep (wr.heap.size ≤ g7) := ⟨by rw [hg7.out]; exact Nat.le_refl _⟩
  generalize wa.setRow g7 (fA (⟨xn, .slice xa x.bs.length xc, xs⟩ : FC)) = wb at *
  have KD := Keep.mk (JD.out.below B7.out)
  have KP := Keep.mk (JP.out.below B7.out JP.out.lt)
  have KQ := Keep.mk (JQ.out.below B7.out JQ.out.lt)
  have KB : Keep (Below w.heap.size w wb) := ⟨JB.out.trans (B7.out.mono JB.out.size)⟩
  have KR := Keep.mk (HXr.out.below B7.out)
  have L8 : Keep (w.heap.size ≤ g7 ∧ ∀ k, DskS ps (.slice va cs.length vc) cs k → k < g7) := ⟨Nat.le_trans JB.out.size L7.out, fun k hk => by have h := L7.out; rcases JD.out.sTyp hk with h1 | h1 | h1 <;> (have := h1.lt; omega)⟩
  clear HN BN hg7 HRg JB B7 JD JP JQ HXr
  have c7 := H7.out.c 0 (by rfl : (fA (⟨xn, .slice xa x.bs.length xc, xs⟩ : FC))[0]? = some (.string xn))
  simp only [Act.put]
  refine WL.nil (hK9 _ _ ?_)
  refine wp_seq_k fun K10 hK10 => ?_
  rcases hfd : fnd xn Dt.fs 0 with ⟨i, _ | _⟩
  ·refine rgn ?_
   refine VlS (.pointer (some ⟨ps, 0, none⟩)) ?_
   refine VlS (.pointer (some ⟨g7, 0, none⟩)) ?_
   refine VlS (.string xn) ?_
   have hfa := find_any ps xn _ cs Dt wb KD.out (by rw [KD.out.fcs.len]; have := LOk.out.len; omega)
   rw [hfd] at hfa
   refine WL.callF (by kernel_rfl) 33 _ _ rfl Tryd.in33 #[ptr ps, .string xn] (by simp [Act.eval]) ?_
   refine (hfa).mono ?_
   rintro e w2 ⟨rfl, hb2⟩
   refine ⟨_, rfl, ?_⟩
   have E7 := Keep.mk (H7.out.below hb2 H7.out.lt)
   have ED := Keep.mk (KD.out.below hb2)
   have EP := Keep.mk (KP.out.below hb2 KP.out.lt)
   have EQ := Keep.mk (KQ.out.below hb2 KQ.out.lt)
   have EB : Keep (Below w.heap.size w w2) := ⟨KB.out.trans (hb2.mono KB.out.size)⟩
   have ER := Keep.mk (KR.out.below hb2)
   clear hb2 hfa c7 H7 KD KP KQ KB KR
   have HFd := Keep.mk hfd
   clear hfd
   have c7 := E7.out.c 0 (by rfl : (fA (⟨xn, .slice xa x.bs.length xc, xs⟩ : FC))[0]? = some (.string xn))
   have p0 := ED.out.blk.c 0 (by rfl : (stA (.slice va cs.length vc) Dt)[0]? = some (.slice va cs.length vc))
   simp only [Act.put, pqA, pqB, pqC]
   refine VlS (.tuple #[.int .i64 (i : Int), .bool false]) ?_
   refine VlS (.int .i64 (i : Int)) ?_
   refine VlS (.bool false) ?_
   refine VlS (.int .i64 (i : Int)) ?_
   refine VlS (.bool false) ?_
   refine WL.nil (hK10 _ _ ?_)
   refine wp_seq_k fun K11 hK11 => ?_
   refine wp_seq_k fun K12 hK12 => rgn ?_
   refine VlS (.bool false) ?_
   refine VlS (.bool false) ?_
   refine VlS (.pointer (some ⟨g7, 0, none⟩)) ?_
   refine VlS (.string xn) ?_
   clear c7
   refine WL.callF (by kernel_rfl) 34 _ _ rfl Tryd.in34 #[.string xn] (by simp [Act.eval]) ?_
   refine (right_any xn w2).mono ?_
   rintro e w3 ⟨rfl, hw⟩
   refine ⟨_, rfl, ?_⟩
   obtain rfl : w2 = w3 := hw.symm
   clear hw
   have c7 := E7.out.c 0 (by rfl : (fA (⟨xn, .slice xa x.bs.length xc, xs⟩ : FC))[0]? = some (.string xn))
   obtain ⟨rg, hrg⟩ : ∃ z, Keep (z = rgt xn) := ⟨_, ⟨rfl⟩⟩
   rw [← hrg.out]
   simp only [Act.put, pqA, pqB, pqC]
   by_cases h7_5 : rg = true
   ·have HRt : Keep (rgt xn = true) := ⟨by rw [← hrg.out]; exact h7_5⟩
    clear hrg
    refine VlS (.bool false) ?_
    refine VlS (.bool false) ?_
    refine VlS (.bool false) ?_
    refine VlS (.pointer (some ⟨ps, 0, none⟩)) ?_
    refine VlS (.pointer (some ⟨ps, 0, none⟩)) ?_
    refine VlS (.pointer (some ⟨ps, 0, none⟩)) ?_
    refine VlS (.slice va cs.length vc) ?_
    refine VlS (.int .i64 (cs.length : Int)) ?_
    by_cases h7_13 : (256 : Int) ≤ (cs.length : Int)
    ·skip
     refine VlS (.bool true) ?_
     refine VlS (.bool true) ?_
     refine WL.nil (hK12 _ _ ?_)
     refine wp_cond_true rfl ?_
     refine wp_exit ?_
     refine hK8 _ _ ?_
     refine rgn ?_
     refine VlS (.int .i64 ((t : Int) + 1)) ?_
     refine VlS (.int .i64 ((t : Int) + 1)) ?_
     refine WL.nil ?_
     refine ⟨⟨fun zz => [.int .i64 r, .slice (some ⟨q, ko, none⟩) ks.length kc, undef, undef, .pointer none, .pointer none, .pointer (some ⟨pd, 0, none⟩), .pointer (some ⟨ph, 0, none⟩), .pointer (some ⟨ps, 0, none⟩), undef, .pointer (some ⟨g7, 0, none⟩), .int .i64 (i : Int), .bool false, fz 13, .tuple #[.pointer (some ⟨pd, 0, none⟩), .pointer (some ⟨ph, 0, none⟩)], .int .i64 r, .tuple #[.pointer (some ⟨pd, 0, none⟩), .pointer (some ⟨ph, 0, none⟩)], .pointer (some ⟨pd, 0, none⟩), .pointer (some ⟨ph, 0, none⟩), .pointer (some ⟨pd, 0, none⟩), .pointer (some ⟨pd, 0, none⟩), .pointer (some ⟨pd, 0, none⟩), .pointer (some ⟨ps, 0, none⟩), .slice (some ⟨q, ko, none⟩) ks.length kc, .int .i64 (ks.length : Int), .int .i64 ((t : Int) + 1), .bool true, .pointer (some ⟨q, ko + t * 3, none⟩), .agg (fA (⟨xn, .slice xa x.bs.length xc, xs⟩ : FC)), .tuple #[.int .i64 (i : Int), .bool false], .pointer (some ⟨ps, 0, none⟩), .pointer (some ⟨g7, 0, none⟩), .string xn, .tuple #[.int .i64 (i : Int), .bool false], .int .i64 (i : Int), .bool false, .bool false, .bool false, .pointer (some ⟨g7, 0, none⟩), .string xn, .bool rg, .bool false, .bool false, .bool false, .pointer (some ⟨ps, 0, none⟩), .pointer (some ⟨ps, 0, none⟩), .pointer (some ⟨ps, 0, none⟩), .slice va cs.length vc, .int .i64 (cs.length : Int), .bool true, .bool true, fz 51, fz 52, fz 53, fz 54, fz 55, fz 56, fz 57, fz 58, fz 59, fz 60, fz 61, fz 62, fz 63, fz 64, fz 65, fz 66, fz 67, fz 68, fz 69, fz 70, fz 71, fz 72, fz 73, fz 74, fz 75, fz 76, fz 77, fz 78, fz 79, fz 80, fz 81, fz 82, fz 83, fz 84, fz 85, fz 86, fz 87, fz 88, fz 89, fz 90, fz 91, fz 92, fz 93, fz 94, fz 95, fz 96, .int .i64 ((t : Int) + 1), undef, undef, undef, undef, undef, undef, undef, undef, undef, undef, undef, undef, undef, undef].getD zz undef, t + 1, .slice va cs.length vc, cs, Dt, rfl, by omega, ?_, ED.out, JS.out, EP.out, EQ.out, EB.out⟩, ?_⟩
     ·have h1 : layStep (layT (ks.take t)) x = layT (ks.take t) := by
       have e : Dt.fs = layT (ks.take t) := by rw [JE.out]
       have h := HFd.out
       rw [HXn.out, e] at h
       unfold layStep
       rw [h, if_pos]
       exact .inr (.inr (by have h3 := ED.out.fcs.len; rw [e] at h3; omega))
      rw [layT_snoc HKx.out, h1]
      exact JE.out
     ·simp only [intOf]; show ks.length - ((t : Int) + 1).toNat < ks.length - ((t : Int)).toNat; omega
    ·skip
     refine VlS (.bool false) ?_
     refine VlS (.bool false) ?_
     refine WL.nil (hK12 _ _ ?_)
     refine wp_cond_false rfl ?_
     refine wp_skip ?_
     refine hK11 _ _ ?_
     refine wp_seq_k fun K13 hK13 => rgn ?_
     refine WL.bs (by kernel_rfl) 44 0 _ rfl #[] (by simp) _ _ (bsFE w2) ?_
     have HN3 := Keep.mk (ownF_empty w2)
     have B3 := Keep.mk (below_new w2 (.cells #[] 70))
     clear p0 c7
     generalize w2.alloc (.cells #[] 70) = w3 at *
     obtain ⟨g3, hg3⟩ : ∃ g, Keep (g = w2.heap.size) := ⟨_, ⟨rfl⟩⟩
     rw [← hg3.out] at HN3 ⊢
     have hB3 : Keep (w2.heap.size ≤ g3) := ⟨by rw [hg3.out]; exact Nat.le_refl _⟩
     have D3 := Keep.mk (ED.out.below B3.out)
     have hil : Keep (i ≤ cs.length) := ⟨by rw [ED.out.fcs.len]; have h := (fnd_le xn Dt.fs 0).2; rw [HFd.out] at h; simp only at h; omega⟩
     have hil' : ¬ (cs.length : Int) < (i : Int) := by have := hil.out; omega
     have p0 := D3.out.blk.c 0 (by rfl : (stA (.slice va cs.length vc) Dt)[0]? = some (.slice va cs.length vc))
     obtain ⟨vs1, hs1, hs2⟩ := slF_hi D3.out.own i hil.out
     have HS1 := Keep.mk (hs1 w3)
     have HS2 := Keep.mk (hs2 w3 D3.out.own)
     clear hs1 hs2
     simp only [Act.put, pqA, pqB, pqC]
     refine VlS (.pointer (some ⟨ps, 0, none⟩)) ?_
     refine VlS (.pointer (some ⟨ps, 0, none⟩)) ?_
     refine VlS (.pointer (some ⟨ps, 0, none⟩)) ?_
     refine VlS (.slice va cs.length vc) ?_
     refine VlS (.int .i64 (i : Int)) ?_
     refine WL.slHi (by kernel_rfl) (.tmp 55) (.tmp 56) rfl (.slice va cs.length vc) (.int .i64 (i : Int)) vs1 rfl rfl HS1.out ?_
     simp only [Act.put, pqA, pqB, pqC]
     refine WL.appS (by kernel_rfl) (.tmp 51) (.tmp 57) rfl (.slice (some ⟨g3, 0, none⟩) 0 0) vs1 [] (cs.take i) (fun x hx => D3.out.fcs.sl x (List.mem_of_mem_take hx)) rfl rfl HN3.out HS2.out (by have := ED.out.fcs.len; have := LOk.out.len; simp; omega) fun v4 w4 ho hg hm => ?_
     have HO4 : Keep (OwnF w4 v4 (cs.take i)) := ⟨by rw [List.nil_append] at ho; exact ho⟩
     have N4 : Keep (NewF w2.heap.size v4) := ⟨NewF.moved (NewF.at hB3.out) B3.out.size hm⟩
     have B4 : Keep (Below w2.heap.size w2 w4) := ⟨newF_below (NewF.at hB3.out) B3.out hg⟩
     have D4 : Keep (DskAt w4 ps (.slice va cs.length vc) cs Dt) := ⟨ED.out.below B4.out⟩
     clear ho hg hm D3 HS1 HS2 p0 HN3 B3 hg3 hB3
     obtain ⟨a4, k4, e4⟩ := HO4.out.sl
     subst e4
     obtain ⟨n4, hn4⟩ : ∃ q, Keep (q = (cs.take i).length) := ⟨_, ⟨rfl⟩⟩
     rw [← hn4.out] at HO4 N4 ⊢
     simp only [Act.put, pqA, pqB, pqC]
     refine VlS (.slice a4 n4 k4) ?_
     refine WL.nil (hK13 _ _ ?_)
     refine wp_seq_k fun K14 hK14 => ?_
     have F7 : Keep (Blk w4.drew g7 70 (fA (⟨xn, .slice xa x.bs.length xc, xs⟩ : FC))) := ⟨(E7.out.below B4.out E7.out.lt).drew⟩
     have FB : Keep (Below w2.heap.size w2 w4.drew) := ⟨B4.out.drew⟩
     have FO : Keep (OwnF w4.drew (.slice a4 n4 k4) (cs.take i)) := ⟨HO4.out⟩
     have FR : Keep (RowAt w4.drew (.slice xa x.bs.length xc) x.bs) := ⟨ER.out.below FB.out⟩
     clear D4 B4 HO4
     refine wp_region_held_drew (S := fun wx => Blk wx g7 70 (fA (⟨xn, .slice xa x.bs.length xc, xs⟩ : FC))) (by kernel_rfl) F7.out (fun hHeld => ?_)
     generalize w4.drew = w5 at *
     have L5 : Keep (g7 < w2.heap.size) := ⟨E7.out.lt⟩
     refine tkS (i := 0) (oi := ⟨some 59, Op.move (Operand.tmp 13), 44, _, _, none⟩) (v := .slice a4 n4 k4) rfl (Or.inl ⟨by rfl, fun w hS => by have s0 := hS.c 0 (by rfl : (fA (⟨xn, .slice xa x.bs.length xc, xs⟩ : FC))[0]? = some (.string xn)); have s1 := hS.c 1 (by rfl : (fA (⟨xn, .slice xa x.bs.length xc, xs⟩ : FC))[1]? = some (.slice xa x.bs.length xc)); have s2 := hS.c 2 (by rfl : (fA (⟨xn, .slice xa x.bs.length xc, xs⟩ : FC))[2]? = some (.int .i64 xs)); go_simp⟩) hHeld ?_
     refine tkS (i := 1) (oi := ⟨some 60, Op.fieldAddr 70 (Operand.tmp 10) 0, 0, _, _, none⟩) (v := .pointer (some ⟨g7, 0, none⟩)) rfl (Or.inl ⟨by rfl, fun w hS => by have s0 := hS.c 0 (by rfl : (fA (⟨xn, .slice xa x.bs.length xc, xs⟩ : FC))[0]? = some (.string xn)); have s1 := hS.c 1 (by rfl : (fA (⟨xn, .slice xa x.bs.length xc, xs⟩ : FC))[1]? = some (.slice xa x.bs.length xc)); have s2 := hS.c 2 (by rfl : (fA (⟨xn, .slice xa x.bs.length xc, xs⟩ : FC))[2]? = some (.int .i64 xs)); go_simp⟩) hHeld ?_
     refine tkS (i := 2) (oi := ⟨some 61, Op.load 9 (Operand.tmp 60), 9, _, _, none⟩) (v := .string xn) rfl (Or.inl ⟨by rfl, fun w hS => by have s0 := hS.c 0 (by rfl : (fA (⟨xn, .slice xa x.bs.length xc, xs⟩ : FC))[0]? = some (.string xn)); have s1 := hS.c 1 (by rfl : (fA (⟨xn, .slice xa x.bs.length xc, xs⟩ : FC))[1]? = some (.slice xa x.bs.length xc)); have s2 := hS.c 2 (by rfl : (fA (⟨xn, .slice xa x.bs.length xc, xs⟩ : FC))[2]? = some (.int .i64 xs)); go_simp⟩) hHeld ?_
     refine tkS (i := 4) (oi := ⟨some 63, Op.fieldAddr 70 (Operand.tmp 10) 1, 0, _, _, none⟩) (v := .pointer (some ⟨g7, 1, none⟩)) rfl (Or.inl ⟨by rfl, fun w hS => by have s0 := hS.c 0 (by rfl : (fA (⟨xn, .slice xa x.bs.length xc, xs⟩ : FC))[0]? = some (.string xn)); have s1 := hS.c 1 (by rfl : (fA (⟨xn, .slice xa x.bs.length xc, xs⟩ : FC))[1]? = some (.slice xa x.bs.length xc)); have s2 := hS.c 2 (by rfl : (fA (⟨xn, .slice xa x.bs.length xc, xs⟩ : FC))[2]? = some (.int .i64 xs)); go_simp⟩) hHeld ?_
     refine tkS (i := 5) (oi := ⟨some 64, Op.load 37 (Operand.tmp 63), 37, _, _, none⟩) (v := .slice xa x.bs.length xc) rfl (Or.inl ⟨by rfl, fun w hS => by have s0 := hS.c 0 (by rfl : (fA (⟨xn, .slice xa x.bs.length xc, xs⟩ : FC))[0]? = some (.string xn)); have s1 := hS.c 1 (by rfl : (fA (⟨xn, .slice xa x.bs.length xc, xs⟩ : FC))[1]? = some (.slice xa x.bs.length xc)); have s2 := hS.c 2 (by rfl : (fA (⟨xn, .slice xa x.bs.length xc, xs⟩ : FC))[2]? = some (.int .i64 xs)); go_simp⟩) hHeld ?_
     refine tkS (i := 7) (oi := ⟨some 66, Op.fieldAddr 70 (Operand.tmp 10) 2, 0, _, _, none⟩) (v := .pointer (some ⟨g7, 2, none⟩)) rfl (Or.inl ⟨by rfl, fun w hS => by have s0 := hS.c 0 (by rfl : (fA (⟨xn, .slice xa x.bs.length xc, xs⟩ : FC))[0]? = some (.string xn)); have s1 := hS.c 1 (by rfl : (fA (⟨xn, .slice xa x.bs.length xc, xs⟩ : FC))[1]? = some (.slice xa x.bs.length xc)); have s2 := hS.c 2 (by rfl : (fA (⟨xn, .slice xa x.bs.length xc, xs⟩ : FC))[2]? = some (.int .i64 xs)); go_simp⟩) hHeld ?_
     refine tkS (i := 8) (oi := ⟨some 67, Op.load 3 (Operand.tmp 66), 3, _, _, none⟩) (v := .int .i64 xs) rfl (Or.inl ⟨by rfl, fun w hS => by have s0 := hS.c 0 (by rfl : (fA (⟨xn, .slice xa x.bs.length xc, xs⟩ : FC))[0]? = some (.string xn)); have s1 := hS.c 1 (by rfl : (fA (⟨xn, .slice xa x.bs.length xc, xs⟩ : FC))[1]? = some (.slice xa x.bs.length xc)); have s2 := hS.c 2 (by rfl : (fA (⟨xn, .slice xa x.bs.length xc, xs⟩ : FC))[2]? = some (.int .i64 xs)); go_simp⟩) hHeld ?_
     refine tkS (i := 9) (oi := ⟨some 68, Op.call { callee := Callee.builtin Builtin.max, args := #[Operand.const (Value.int IntKind.i64 0), Operand.tmp 67], argTypes := #[3, 3] }, 3, _, _, none⟩) (v := .int .i64 (max 0 xs)) rfl (Or.inl ⟨by rfl, fun w hS => by have s0 := hS.c 0 (by rfl : (fA (⟨xn, .slice xa x.bs.length xc, xs⟩ : FC))[0]? = some (.string xn)); have s1 := hS.c 1 (by rfl : (fA (⟨xn, .slice xa x.bs.length xc, xs⟩ : FC))[1]? = some (.slice xa x.bs.length xc)); have s2 := hS.c 2 (by rfl : (fA (⟨xn, .slice xa x.bs.length xc, xs⟩ : FC))[2]? = some (.int .i64 xs)); go_simp⟩) hHeld ?_
     refine tkS (i := 10) (oi := ⟨some 69, Op.fieldAddr 70 (Operand.tmp 10) 1, 0, _, _, none⟩) (v := .pointer (some ⟨g7, 1, none⟩)) rfl (Or.inl ⟨by rfl, fun w hS => by have s0 := hS.c 0 (by rfl : (fA (⟨xn, .slice xa x.bs.length xc, xs⟩ : FC))[0]? = some (.string xn)); have s1 := hS.c 1 (by rfl : (fA (⟨xn, .slice xa x.bs.length xc, xs⟩ : FC))[1]? = some (.slice xa x.bs.length xc)); have s2 := hS.c 2 (by rfl : (fA (⟨xn, .slice xa x.bs.length xc, xs⟩ : FC))[2]? = some (.int .i64 xs)); go_simp⟩) hHeld ?_
     refine tkS (i := 11) (oi := ⟨some 70, Op.load 37 (Operand.tmp 69), 37, _, _, none⟩) (v := .slice xa x.bs.length xc) rfl (Or.inl ⟨by rfl, fun w hS => by have s0 := hS.c 0 (by rfl : (fA (⟨xn, .slice xa x.bs.length xc, xs⟩ : FC))[0]? = some (.string xn)); have s1 := hS.c 1 (by rfl : (fA (⟨xn, .slice xa x.bs.length xc, xs⟩ : FC))[1]? = some (.slice xa x.bs.length xc)); have s2 := hS.c 2 (by rfl : (fA (⟨xn, .slice xa x.bs.length xc, xs⟩ : FC))[2]? = some (.int .i64 xs)); go_simp⟩) hHeld ?_
     refine tkS (i := 12) (oi := ⟨some 71, Op.call { callee := Callee.builtin Builtin.len, args := #[Operand.tmp 70], argTypes := #[37] }, 3, _, _, none⟩) (v := .int .i64 (x.bs.length : Int)) rfl (Or.inl ⟨by rfl, fun w hS => by have s0 := hS.c 0 (by rfl : (fA (⟨xn, .slice xa x.bs.length xc, xs⟩ : FC))[0]? = some (.string xn)); have s1 := hS.c 1 (by rfl : (fA (⟨xn, .slice xa x.bs.length xc, xs⟩ : FC))[1]? = some (.slice xa x.bs.length xc)); have s2 := hS.c 2 (by rfl : (fA (⟨xn, .slice xa x.bs.length xc, xs⟩ : FC))[2]? = some (.int .i64 xs)); go_simp⟩) hHeld ?_
     refine tkS (i := 13) (oi := ⟨some 72, Op.call { callee := Callee.builtin Builtin.min, args := #[Operand.tmp 68, Operand.tmp 71], argTypes := #[3, 3] }, 3, _, _, none⟩) (v := .int .i64 (min (max 0 xs) (x.bs.length : Int))) rfl (Or.inl ⟨by rfl, fun w hS => by have s0 := hS.c 0 (by rfl : (fA (⟨xn, .slice xa x.bs.length xc, xs⟩ : FC))[0]? = some (.string xn)); have s1 := hS.c 1 (by rfl : (fA (⟨xn, .slice xa x.bs.length xc, xs⟩ : FC))[1]? = some (.slice xa x.bs.length xc)); have s2 := hS.c 2 (by rfl : (fA (⟨xn, .slice xa x.bs.length xc, xs⟩ : FC))[2]? = some (.int .i64 xs)); go_simp⟩) hHeld ?_
     refine wpAnyH_ready (rs := [3]) (by kernel_rfl) (by simp) ?_
     refine AllReadyH.cons (o := ⟨some 62, Op.buildSlice 37 0 #[], 37, _, _, none⟩) rfl (fun K hK => ?_) AllReadyH.nil
     rw [if_pos (by rfl)]
     refine wp_bs 37 0 _ rfl #[] (by simp) _ _ (bsBE w5) ?_
     have hbx := below_new w5 (.cells #[] 5)
     have HE : Keep (Own (w5.alloc (.cells #[] 5)) (.slice (some ⟨w5.heap.size, 0, none⟩) 0 0) []) := ⟨own_empty _ _ (Blk.new w5 5 #[])⟩
     have BC := Keep.mk hbx
     clear hbx
     generalize w5.alloc (.cells #[] 5) = wc at *
     obtain ⟨ge, hge⟩ : ∃ q, Keep (q = w5.heap.size) := ⟨_, ⟨rfl⟩⟩
     rw [← hge.out] at HE ⊢
     have LE : Keep (w5.heap.size ≤ ge) := ⟨by rw [hge.out]; exact Nat.le_refl _⟩
     refine hK _ _ (F7.out.below BC.out F7.out.lt) fun hH1 => ?_
     clear hK
     simp only [Act.put, pqA, pqB, pqC]
     refine wpAnyH_ready (rs := [6]) (by kernel_rfl) (by simp) ?_
     refine AllReadyH.cons (o := ⟨some 65, Op.call { callee := Callee.builtin Builtin.append, args := #[Operand.tmp 62, Operand.tmp 64], argTypes := #[37, 37] }, 37, _, _, none⟩) rfl (fun K hK => ?_) AllReadyH.nil
     rw [if_pos (by rfl)]
     refine wp_app (.tmp 62) (.tmp 64) rfl (.slice (some ⟨ge, 0, none⟩) 0 0) (.slice xa x.bs.length xc) [] x.bs rfl rfl HE.out (FR.out.below BC.out) (by have := HUx.out; simp; omega) fun v9 wd hp => ?_
     have BD : Keep (Below w5.heap.size w5 wd) := ⟨BC.out.trans (hp.grown.to_below (B := w5.heap.size) (fun k hk e => by have e : ge = k := Option.some.inj e; have := LE.out; omega) BC.out.size)⟩
     have HV9 : Keep (Own wd v9 x.bs) := ⟨by have h := hp.1; rw [List.nil_append] at h; exact h⟩
     have N9 : Keep (∀ k, v9.ownBlock = some k → w5.heap.size ≤ k) := ⟨own_new hp BC.out.size fun k hk => by have e : ge = k := Option.some.inj hk; have := LE.out; omega⟩
     clear hp HE
     obtain ⟨a9, n9, k9, e9⟩ := HV9.out.sl
     subst e9
     refine hK _ _ (F7.out.below BD.out F7.out.lt) fun hH2 => ?_
     clear hK
     simp only [Act.put, pqA, pqB, pqC]
     refine tkS (i := 14) (oi := ⟨some 73, Op.build 70 #[(0, Operand.tmp 61), (1, Operand.tmp 65), (2, Operand.tmp 72)], 70, _, _, none⟩) (v := .agg (fA (⟨xn, .slice a9 n9 k9, min (max 0 xs) (x.bs.length : Int)⟩ : FC))) rfl (yieldsIf_bld (by rfl) 70 _ rfl #[(0, .string xn), (1, .slice a9 n9 k9), (2, .int .i64 (min (max 0 xs) (x.bs.length : Int)))] (by simp [Act.eval]) (.agg (fA (⟨xn, .slice a9 n9 k9, min (max 0 xs) (x.bs.length : Int)⟩ : FC))) (fun w => run_bldF _ _ _ _ _ w)) hH2 ?_
     refine wpAnyH_ready (rs := [15]) (by kernel_rfl) (by simp) ?_
     refine AllReadyH.cons (o := ⟨some 74, Op.buildSlice 44 1 #[(0, Operand.tmp 73)], 44, _, _, none⟩) rfl (fun K hK => ?_) AllReadyH.nil
     rw [if_pos (by rfl)]
     refine wp_bs 44 1 _ rfl #[(0, .agg (fA (⟨xn, .slice a9 n9 k9, min (max 0 xs) (x.bs.length : Int)⟩ : FC)))] (by simp [Act.eval]) _ _ (bsF xn a9 n9 k9 _ wd) ?_
     have hbx := below_new wd (.cells (fA (⟨xn, .slice a9 n9 k9, min (max 0 xs) (x.bs.length : Int)⟩ : FC)) 70)
     have HB := Keep.mk (Blk.new wd 70 (fA (⟨xn, .slice a9 n9 k9, min (max 0 xs) (x.bs.length : Int)⟩ : FC)))
     have HV10 : Keep (Own (wd.alloc (.cells (fA (⟨xn, .slice a9 n9 k9, min (max 0 xs) (x.bs.length : Int)⟩ : FC)) 70)) (.slice a9 n9 k9) x.bs) := ⟨HV9.out.grown (Grown.below (S := fun _ => False) hbx) fun _ _ h => h⟩
     have BE : Keep (Below w5.heap.size w5 (wd.alloc (.cells (fA (⟨xn, .slice a9 n9 k9, min (max 0 xs) (x.bs.length : Int)⟩ : FC)) 70))) := ⟨BD.out.trans (hbx.mono BD.out.size)⟩
     clear hbx HV9
     generalize wd.alloc (.cells (fA (⟨xn, .slice a9 n9 k9, min (max 0 xs) (x.bs.length : Int)⟩ : FC)) 70) = we at *
     obtain ⟨gz, hgz⟩ : ∃ q, Keep (q = wd.heap.size) := ⟨_, ⟨rfl⟩⟩
     rw [← hgz.out] at HB ⊢
     refine hK _ _ (F7.out.below BE.out F7.out.lt) fun hH3 => ?_
     clear hK
     simp only [Act.put, pqA, pqB, pqC]
     refine wpAnyH_ready (rs := [16]) (by kernel_rfl) (by simp) ?_
     refine AllReadyH.cons (o := ⟨some 75, Op.call { callee := Callee.builtin Builtin.append, args := #[Operand.tmp 59, Operand.tmp 74], argTypes := #[44, 44] }, 44, _, _, none⟩) rfl (fun K hK => ?_) AllReadyH.nil
     rw [if_pos (by rfl)]
     refine wp_appS (.tmp 59) (.tmp 74) rfl (.slice a4 n4 k4) (.slice (some ⟨gz, 0, none⟩) 1 1) (cs.take i) [(⟨xn, .slice a9 n9 k9, min (max 0 xs) (x.bs.length : Int)⟩ : FC)] (fun x hx => by simp at hx; subst hx; exact ⟨_, _, _, rfl⟩) rfl rfl (FO.out.below BE.out) (srcF_one HB.out) (by have := ED.out.fcs.len; have := LOk.out.len; simp; omega) fun v6 w6 ho hg hm => ?_
     have HO6 := Keep.mk ho
     have N6 : Keep (NewF w2.heap.size v6) := ⟨NewF.moved N4.out (Nat.le_trans FB.out.size BE.out.size) hm⟩
     have B6 : Keep (Below w2.heap.size w2 w6) := ⟨newF_below N4.out (FB.out.trans (BE.out.mono FB.out.size)) hg⟩
     have HV6 : Keep (Own w6 (.slice a9 n9 k9) x.bs) := ⟨HV10.out.grown hg fun k hk e => by have := ((FO.out.below BE.out).typ e).one (HV10.out.typ hk); revert this; decide⟩
     have N96 : Keep (∀ k, (Value.slice a9 n9 k9).ownBlock = some k → w2.heap.size ≤ k) := ⟨fun k hk => Nat.le_trans FB.out.size (N9.out k hk)⟩
     have F76 : Keep (Blk w6 g7 70 (fA (⟨xn, .slice xa x.bs.length xc, xs⟩ : FC))) := ⟨E7.out.below B6.out E7.out.lt⟩
     clear ho hg hm HV10 FO FR HB BE BD BC N9 F7 FB hgz hge LE
     obtain ⟨a6, k6, e6⟩ := HO6.out.sl
     subst e6
     obtain ⟨n6, hn6⟩ : ∃ q, Keep (q = (cs.take i ++ [(⟨xn, .slice a9 n9 k9, min (max 0 xs) (x.bs.length : Int)⟩ : FC)]).length) := ⟨_, ⟨rfl⟩⟩
     rw [← hn6.out] at HO6 N6 ⊢
     refine hK _ _ F76.out fun hH4 => ?_
     clear hK
     simp only [Act.put, pqA, pqB, pqC]
     refine tkS (i := 17) (oi := ⟨some 13, Op.assign (Operand.tmp 75), 44, _, _, none⟩) (v := .slice a6 n6 k6) rfl (Or.inl ⟨by rfl, fun w hS => by have s0 := hS.c 0 (by rfl : (fA (⟨xn, .slice xa x.bs.length xc, xs⟩ : FC))[0]? = some (.string xn)); have s1 := hS.c 1 (by rfl : (fA (⟨xn, .slice xa x.bs.length xc, xs⟩ : FC))[1]? = some (.slice xa x.bs.length xc)); have s2 := hS.c 2 (by rfl : (fA (⟨xn, .slice xa x.bs.length xc, xs⟩ : FC))[2]? = some (.int .i64 xs)); go_simp⟩) hH4 ?_
     refine wpAnyH_done (by kernel_rfl) ?_ _
     refine hK14 _ _ ?_
     refine wp_seq_k fun K15 hK15 => ?_
     have D6 : Keep (DskAt w6 ps (.slice va cs.length vc) cs Dt) := ⟨ED.out.below B6.out⟩
     have p0 := D6.out.blk.c 0 (by rfl : (stA (.slice va cs.length vc) Dt)[0]? = some (.slice va cs.length vc))
     obtain ⟨vs2, hs1, hs2⟩ := slF_lo D6.out.own i hil.out
     have HS1 := Keep.mk (hs1 w6)
     have HS2 := Keep.mk (hs2 w6 D6.out.own)
     clear hs1 hs2
     refine rgn ?_
     refine VlS (.pointer (some ⟨ps, 0, none⟩)) ?_
     refine VlS (.slice a6 n6 k6) ?_
     refine VlS (.pointer (some ⟨ps, 0, none⟩)) ?_
     refine VlS (.pointer (some ⟨ps, 0, none⟩)) ?_
     refine VlS (.pointer (some ⟨ps, 0, none⟩)) ?_
     refine VlS (.slice va cs.length vc) ?_
     refine VlS (.int .i64 (i : Int)) ?_
     refine WL.slLo (by kernel_rfl) (.tmp 81) (.tmp 82) rfl (.slice va cs.length vc) (.int .i64 (i : Int)) vs2 rfl rfl HS1.out ?_
     simp only [Act.put, pqA, pqB, pqC]
     refine WL.appS (by kernel_rfl) (.tmp 77) (.tmp 83) rfl (.slice a6 n6 k6) vs2 (cs.take i ++ [(⟨xn, .slice a9 n9 k9, min (max 0 xs) (x.bs.length : Int)⟩ : FC)]) (cs.drop i) (fun x hx => D6.out.fcs.sl x (List.mem_of_mem_drop hx)) rfl rfl HO6.out HS2.out (by have := ED.out.fcs.len; have := LOk.out.len; simp; omega) fun v7 w7 ho hg hm => ?_
     have HO7 : Keep (OwnF w7 v7 (cs.take i ++ [(⟨xn, .slice a9 n9 k9, min (max 0 xs) (x.bs.length : Int)⟩ : FC)] ++ cs.drop i)) := ⟨ho⟩
     have N7 : Keep (NewF w2.heap.size v7) := ⟨NewF.moved N6.out B6.out.size hm⟩
     have B7 : Keep (Below w2.heap.size w2 w7) := ⟨newF_below N6.out B6.out hg⟩
     have HV7 : Keep (Own w7 (.slice a9 n9 k9) x.bs) := ⟨HV6.out.grown hg fun k hk e => by have := (HO6.out.typ e).one (HV6.out.typ hk); revert this; decide⟩
     have D7 : Keep (DskAt w7 ps (.slice va cs.length vc) cs Dt) := ⟨ED.out.below B7.out⟩
     clear ho hg hm D6 HS1 HS2 p0 HO6 N6 B6 HV6 F76
     obtain ⟨a7, k7, e7⟩ := HO7.out.sl
     subst e7
     obtain ⟨n7, hn7⟩ : ∃ q, Keep (q = (cs.take i ++ [(⟨xn, .slice a9 n9 k9, min (max 0 xs) (x.bs.length : Int)⟩ : FC)] ++ cs.drop i).length) := ⟨_, ⟨rfl⟩⟩
     rw [← hn7.out] at HO7 N7 ⊢
     have f_o := D7.out.blk.frozen 0
     have p0 := D7.out.blk.c 0 (by rfl : (stA (.slice va cs.length vc) Dt)[0]? = some (.slice va cs.length vc))
     simp only [Act.put, pqA, pqB, pqC]
     refine VlS (.pointer (some ⟨ps, 0, none⟩)) ?_
     refine VlS (.pointer (some ⟨ps, 0, none⟩)) ?_
     refine WL.cell (by kernel_rfl) (w7.setCell ⟨ps, 0, none⟩ (.slice a7 n7 k7)) (by go_simp) ?_
     clear f_o p0
     have hg8 : Grown w7 (w7.setCell ⟨ps, 0, none⟩ (.slice a7 n7 k7)) fun k => k = ps := Grown.setCell w7 ps 0 _ fun _ => rfl
     have E8 : Keep (DskAt (w7.setCell ⟨ps, 0, none⟩ (.slice a7 n7 k7)) ps (.slice a7 n7 k7) (cs.take i ++ [(⟨xn, .slice a9 n9 k9, min (max 0 xs) (x.bs.length : Int)⟩ : FC)] ++ cs.drop i) { Dt with fs := Dt.fs.take i ++ [layX x] ++ Dt.fs.drop i }) := ⟨⟨D7.out.blk.set 0 (.slice a7 n7 k7), HO7.out.grown hg8 fun k hk e => by subst e; have := (HO7.out.typ hk).one D7.out.blk.typ; revert this; decide, (D7.out.fcs.insx (y := (⟨xn, .slice a9 n9 k9, min (max 0 xs) (x.bs.length : Int)⟩ : FC)) (f := layX x) i hil.out ⟨HXn.out, by show min (max 0 xs) (x.bs.length : Int) = (layX x).sf; rw [HXs.out]; rfl, HV7.out⟩ (fun j z k hj hk e => by have h1 := N96.out k e; have h2 := fcs_lt ED.out.fcs hj hk; omega)).grown hg8 fun k hk e => by subst e; have := hk.one D7.out.blk.typ; revert this; decide⟩⟩
     have G8 : Keep (Grown w2 (w7.setCell ⟨ps, 0, none⟩ (.slice a7 n7 k7)) fun k => k = ps) := ⟨(Grown.below B7.out).trans hg8⟩
     have S8 : Keep (∀ k, DskS ps (.slice a7 n7 k7) (cs.take i ++ [(⟨xn, .slice a9 n9 k9, min (max 0 xs) (x.bs.length : Int)⟩ : FC)] ++ cs.drop i) k → w.heap.size ≤ k) := ⟨fun k hk => by
      have hw := EB.out.size
      rcases hk with h | h | ⟨j, z, hz, hk⟩
      ·exact JS.out k (.inl h)
      ·have := N7.out k h; omega
      ·rw [ins_get _ _ _ _ hil.out] at hz
       split at hz
       ·exact JS.out k (.inr (.inr ⟨j, z, hz, hk⟩))
       ·split at hz
        ·injection hz with hz
         subst hz
         have := N96.out k hk
         omega
        ·exact JS.out k (.inr (.inr ⟨_, z, hz, hk⟩))⟩
     clear hg8 D7 HO7 N7 B7 HV7
     generalize (w7.setCell ⟨ps, 0, none⟩ (.slice a7 n7 k7)) = w8 at *
     have P8 : Keep (Blk w8 pd 75 #[ptr ps]) := ⟨G8.out.blk EP.out fun e => by rw [e] at EP; have := EP.out.typ.one ED.out.blk.typ; revert this; decide⟩
     have Q8 : Keep (Blk w8 ph 77 #[ptr ps]) := ⟨G8.out.blk EQ.out fun e => by rw [e] at EQ; have := EQ.out.typ.one ED.out.blk.typ; revert this; decide⟩
     have F8 : Keep (Blk w8 g7 70 (fA (⟨xn, .slice xa x.bs.length xc, xs⟩ : FC))) := ⟨G8.out.blk E7.out fun e => by rw [e] at E7; have := E7.out.typ.one ED.out.blk.typ; revert this; decide⟩
     have B8 : Keep (Below w.heap.size w w8) := ⟨EB.out.trans ((G8.out.to_below (B := w.heap.size) (fun k hk e => by have := JS.out k (.inl e); omega) EB.out.size))⟩
     clear G8
     simp only [Act.put]
     refine WL.nil (hK15 _ _ ?_)
     have E9 : Keep (DskAt w8.drew ps (.slice a7 n7 k7) (cs.take i ++ [(⟨xn, .slice a9 n9 k9, min (max 0 xs) (x.bs.length : Int)⟩ : FC)] ++ cs.drop i) { Dt with fs := Dt.fs.take i ++ [layX x] ++ Dt.fs.drop i }) := ⟨E8.out.grown (Grown.refl w8 (fun _ => False)).drew fun _ _ h => h⟩
     have P9 : Keep (Blk w8.drew pd 75 #[ptr ps]) := ⟨P8.out.drew⟩
     have Q9 : Keep (Blk w8.drew ph 77 #[ptr ps]) := ⟨Q8.out.drew⟩
     have F9 : Keep (Blk w8.drew g7 70 (fA (⟨xn, .slice xa x.bs.length xc, xs⟩ : FC))) := ⟨F8.out.drew⟩
     have B9 : Keep (Below w.heap.size w w8.drew) := ⟨B8.out.drew⟩
     have hwu : IntKind.i64.wrap (Dt.used + (x.bs.length : Int)) = Dt.used + (x.bs.length : Int) := by rw [IntKind.wrap_i64]; have := HUx.out; omega
     clear E8 P8 Q8 F8 B8
     refine wp_region_held_drew (S := fun wx => Blk wx g7 70 (fA (⟨xn, .slice xa x.bs.length xc, xs⟩ : FC))) (by kernel_rfl) F9.out (fun hHeld => ?_)
     generalize w8.drew = w9 at *
     refine tkS (i := 0) (oi := ⟨some 87, Op.move (Operand.tmp 8), 71, _, _, none⟩) (v := .pointer (some ⟨ps, 0, none⟩)) rfl (Or.inl ⟨by rfl, fun w hS => by have s1 := hS.c 1 (by rfl : (fA (⟨xn, .slice xa x.bs.length xc, xs⟩ : FC))[1]? = some (.slice xa x.bs.length xc)); go_simp⟩) hHeld ?_
     refine tkS (i := 1) (oi := ⟨some 88, Op.nilCheck (Operand.tmp 87), 0, _, _, none⟩) (v := .pointer (some ⟨ps, 0, none⟩)) rfl (Or.inl ⟨by rfl, fun w hS => by have s1 := hS.c 1 (by rfl : (fA (⟨xn, .slice xa x.bs.length xc, xs⟩ : FC))[1]? = some (.slice xa x.bs.length xc)); go_simp⟩) hHeld ?_
     refine tkS (i := 2) (oi := ⟨some 89, Op.fieldAddr 73 (Operand.tmp 88) 2, 0, _, _, none⟩) (v := .pointer (some ⟨ps, 2, none⟩)) rfl (Or.inl ⟨by rfl, fun w hS => by have s1 := hS.c 1 (by rfl : (fA (⟨xn, .slice xa x.bs.length xc, xs⟩ : FC))[1]? = some (.slice xa x.bs.length xc)); go_simp⟩) hHeld ?_
     refine tkS (i := 4) (oi := ⟨some 91, Op.fieldAddr 70 (Operand.tmp 10) 1, 0, _, _, none⟩) (v := .pointer (some ⟨g7, 1, none⟩)) rfl (Or.inl ⟨by rfl, fun w hS => by have s1 := hS.c 1 (by rfl : (fA (⟨xn, .slice xa x.bs.length xc, xs⟩ : FC))[1]? = some (.slice xa x.bs.length xc)); go_simp⟩) hHeld ?_
     refine tkS (i := 5) (oi := ⟨some 92, Op.load 37 (Operand.tmp 91), 37, _, _, none⟩) (v := .slice xa x.bs.length xc) rfl (Or.inl ⟨by rfl, fun w hS => by have s1 := hS.c 1 (by rfl : (fA (⟨xn, .slice xa x.bs.length xc, xs⟩ : FC))[1]? = some (.slice xa x.bs.length xc)); go_simp⟩) hHeld ?_
     refine tkS (i := 6) (oi := ⟨some 93, Op.call { callee := Callee.builtin Builtin.len, args := #[Operand.tmp 92], argTypes := #[37] }, 3, _, _, none⟩) (v := .int .i64 (x.bs.length : Int)) rfl (Or.inl ⟨by rfl, fun w hS => by have s1 := hS.c 1 (by rfl : (fA (⟨xn, .slice xa x.bs.length xc, xs⟩ : FC))[1]? = some (.slice xa x.bs.length xc)); go_simp⟩) hHeld ?_
     refine wpAnyH_ready (rs := [3]) (by kernel_rfl) (by simp) ?_
     refine AllReadyH.cons (o := ⟨some 90, Op.load 3 (Operand.tmp 89), 3, _, _, none⟩) rfl (fun K hK => ?_) AllReadyH.nil
     rw [if_pos (by rfl)]
     have cl : w9.cell? ⟨ps, 2, none⟩ = some (.int .i64 Dt.used) := E9.out.blk.c 2 rfl
     refine wp_val (.int .i64 Dt.used) (by go_simp) ?_
     clear cl
     refine hK _ _ F9.out fun hH1 => ?_
     clear hK
     simp only [Act.put, pqA, pqB, pqC]
     refine tkS (i := 7) (oi := ⟨some 94, Op.binOp BinOp.add 3 (Operand.tmp 90) (Operand.tmp 93) 3, 3, _, _, none⟩) (v := .int .i64 (Dt.used + (x.bs.length : Int))) rfl (Or.inl ⟨by rfl, fun w hS => by have s1 := hS.c 1 (by rfl : (fA (⟨xn, .slice xa x.bs.length xc, xs⟩ : FC))[1]? = some (.slice xa x.bs.length xc)); go_simp⟩) hH1 ?_
     refine tkS (i := 8) (oi := ⟨some 95, Op.nilCheck (Operand.tmp 87), 0, _, _, none⟩) (v := .pointer (some ⟨ps, 0, none⟩)) rfl (Or.inl ⟨by rfl, fun w hS => by have s1 := hS.c 1 (by rfl : (fA (⟨xn, .slice xa x.bs.length xc, xs⟩ : FC))[1]? = some (.slice xa x.bs.length xc)); go_simp⟩) hH1 ?_
     refine tkS (i := 9) (oi := ⟨some 96, Op.fieldAddr 73 (Operand.tmp 95) 2, 0, _, _, none⟩) (v := .pointer (some ⟨ps, 2, none⟩)) rfl (Or.inl ⟨by rfl, fun w hS => by have s1 := hS.c 1 (by rfl : (fA (⟨xn, .slice xa x.bs.length xc, xs⟩ : FC))[1]? = some (.slice xa x.bs.length xc)); go_simp⟩) hH1 ?_
     refine wpAnyH_ready (rs := [10]) (by kernel_rfl) (by simp) ?_
     refine AllReadyH.cons (o := ⟨none, Op.store 3 (Operand.tmp 96) (Operand.tmp 94), 0, _, _, none⟩) rfl (fun K hK => ?_) AllReadyH.nil
     rw [if_pos (by rfl)]
     have f_o := E9.out.blk.frozen 2
     have cl : w9.cell? ⟨ps, 2, none⟩ = some (.int .i64 Dt.used) := E9.out.blk.c 2 rfl
     refine wp_cellS (w9.setCell ⟨ps, 2, none⟩ (.int .i64 (Dt.used + (x.bs.length : Int)))) (by go_simp) ?_
     clear f_o cl
     have hg9 : Grown w9 (w9.setCell ⟨ps, 2, none⟩ (.int .i64 (Dt.used + (x.bs.length : Int)))) fun k => k = ps := Grown.setCell w9 ps 2 _ fun _ => rfl
     have E12 : Keep (DskAt (w9.setCell ⟨ps, 2, none⟩ (.int .i64 (Dt.used + (x.bs.length : Int)))) ps (.slice a7 n7 k7) (cs.take i ++ [(⟨xn, .slice a9 n9 k9, min (max 0 xs) (x.bs.length : Int)⟩ : FC)] ++ cs.drop i) { Dt with fs := Dt.fs.take i ++ [layX x] ++ Dt.fs.drop i, used := Dt.used + (x.bs.length : Int) }) := ⟨E9.out.put rfl rfl⟩
     have P12 : Keep (Blk (w9.setCell ⟨ps, 2, none⟩ (.int .i64 (Dt.used + (x.bs.length : Int)))) pd 75 #[ptr ps]) := ⟨hg9.blk P9.out fun e => by rw [e] at P9; have := P9.out.typ.one E9.out.blk.typ; revert this; decide⟩
     have Q12 : Keep (Blk (w9.setCell ⟨ps, 2, none⟩ (.int .i64 (Dt.used + (x.bs.length : Int)))) ph 77 #[ptr ps]) := ⟨hg9.blk Q9.out fun e => by rw [e] at Q9; have := Q9.out.typ.one E9.out.blk.typ; revert this; decide⟩
     have F12 : Keep (Blk (w9.setCell ⟨ps, 2, none⟩ (.int .i64 (Dt.used + (x.bs.length : Int)))) g7 70 (fA (⟨xn, .slice xa x.bs.length xc, xs⟩ : FC))) := ⟨hg9.blk F9.out fun e => by rw [e] at F9; have := F9.out.typ.one E9.out.blk.typ; revert this; decide⟩
     have B12 : Keep (Below w.heap.size w (w9.setCell ⟨ps, 2, none⟩ (.int .i64 (Dt.used + (x.bs.length : Int))))) := ⟨B9.out.trans ((hg9.to_below (B := w.heap.size) (fun k hk e => by have := JS.out k (.inl e); omega) B9.out.size))⟩
     clear hg9 E9 P9 Q9 F9 B9 hwu
     generalize (w9.setCell ⟨ps, 2, none⟩ (.int .i64 (Dt.used + (x.bs.length : Int)))) = w12 at *
     refine hK _ _ F12.out fun hS12 => ?_
     clear hK
     simp only [Act.put, pqA, pqB, pqC]
     refine wpAnyH_done (by kernel_rfl) ?_ _
     refine hK8 _ _ ?_
     refine rgn ?_
     refine VlS (.int .i64 ((t : Int) + 1)) ?_
     refine VlS (.int .i64 ((t : Int) + 1)) ?_
     refine WL.nil ?_
     refine ⟨⟨fun zz => [.int .i64 r, .slice (some ⟨q, ko, none⟩) ks.length kc, undef, undef, .pointer none, .pointer none, .pointer (some ⟨pd, 0, none⟩), .pointer (some ⟨ph, 0, none⟩), .pointer (some ⟨ps, 0, none⟩), undef, .pointer (some ⟨g7, 0, none⟩), .int .i64 (i : Int), .bool false, .slice a6 n6 k6, .tuple #[.pointer (some ⟨pd, 0, none⟩), .pointer (some ⟨ph, 0, none⟩)], .int .i64 r, .tuple #[.pointer (some ⟨pd, 0, none⟩), .pointer (some ⟨ph, 0, none⟩)], .pointer (some ⟨pd, 0, none⟩), .pointer (some ⟨ph, 0, none⟩), .pointer (some ⟨pd, 0, none⟩), .pointer (some ⟨pd, 0, none⟩), .pointer (some ⟨pd, 0, none⟩), .pointer (some ⟨ps, 0, none⟩), .slice (some ⟨q, ko, none⟩) ks.length kc, .int .i64 (ks.length : Int), .int .i64 ((t : Int) + 1), .bool true, .pointer (some ⟨q, ko + t * 3, none⟩), .agg (fA (⟨xn, .slice xa x.bs.length xc, xs⟩ : FC)), .tuple #[.int .i64 (i : Int), .bool false], .pointer (some ⟨ps, 0, none⟩), .pointer (some ⟨g7, 0, none⟩), .string xn, .tuple #[.int .i64 (i : Int), .bool false], .int .i64 (i : Int), .bool false, .bool false, .bool false, .pointer (some ⟨g7, 0, none⟩), .string xn, .bool rg, .bool false, .bool false, .bool false, .pointer (some ⟨ps, 0, none⟩), .pointer (some ⟨ps, 0, none⟩), .pointer (some ⟨ps, 0, none⟩), .slice va cs.length vc, .int .i64 (cs.length : Int), .bool false, .bool false, .slice (some ⟨g3, 0, none⟩) 0 0, .pointer (some ⟨ps, 0, none⟩), .pointer (some ⟨ps, 0, none⟩), .pointer (some ⟨ps, 0, none⟩), .slice va cs.length vc, .int .i64 (i : Int), vs1, .slice a4 n4 k4, .slice a4 n4 k4, .pointer (some ⟨g7, 0, none⟩), .string xn, .slice (some ⟨ge, 0, none⟩) 0 0, .pointer (some ⟨g7, 1, none⟩), .slice xa x.bs.length xc, .slice a9 n9 k9, .pointer (some ⟨g7, 2, none⟩), .int .i64 xs, .int .i64 (max 0 xs), .pointer (some ⟨g7, 1, none⟩), .slice xa x.bs.length xc, .int .i64 (x.bs.length : Int), .int .i64 (min (max 0 xs) (x.bs.length : Int)), .agg (fA (⟨xn, .slice a9 n9 k9, min (max 0 xs) (x.bs.length : Int)⟩ : FC)), .slice (some ⟨gz, 0, none⟩) 1 1, .slice a6 n6 k6, .pointer (some ⟨ps, 0, none⟩), .slice a6 n6 k6, .pointer (some ⟨ps, 0, none⟩), .pointer (some ⟨ps, 0, none⟩), .pointer (some ⟨ps, 0, none⟩), .slice va cs.length vc, .int .i64 (i : Int), vs2, .slice a7 n7 k7, .pointer (some ⟨ps, 0, none⟩), .pointer (some ⟨ps, 0, none⟩), .pointer (some ⟨ps, 0, none⟩), .pointer (some ⟨ps, 0, none⟩), .pointer (some ⟨ps, 2, none⟩), .int .i64 Dt.used, .pointer (some ⟨g7, 1, none⟩), .slice xa x.bs.length xc, .int .i64 (x.bs.length : Int), .int .i64 (Dt.used + (x.bs.length : Int)), .pointer (some ⟨ps, 0, none⟩), .pointer (some ⟨ps, 2, none⟩), .int .i64 ((t : Int) + 1), undef, undef, undef, undef, undef, undef, undef, undef, undef, undef, undef, undef, undef, undef].getD zz undef, t + 1, .slice a7 n7 k7, (cs.take i ++ [(⟨xn, .slice a9 n9 k9, min (max 0 xs) (x.bs.length : Int)⟩ : FC)] ++ cs.drop i), { Dt with fs := Dt.fs.take i ++ [layX x] ++ Dt.fs.drop i, used := Dt.used + (x.bs.length : Int) }, rfl, by omega, ?_, E12.out, S8.out, P12.out, Q12.out, B12.out⟩, ?_⟩
     ·have h1 : layStep (layT (ks.take t)) x = Dt.fs.take i ++ [layX x] ++ Dt.fs.drop i := by
       have e : Dt.fs = layT (ks.take t) := by rw [JE.out]
       have h := HFd.out
       rw [HXn.out, e] at h
       unfold layStep
       rw [h, if_neg, e]
       rintro (h2 | h2 | h2)
       ·cases h2
       ·have := HRt.out; rw [HXn.out, h2] at this; cases this
       ·have h3 := ED.out.fcs.len; rw [e] at h3; omega
      rw [layT_snoc HKx.out, h1, usd_ins]
      have e2 : Dt.used = usd Dt.fs := by rw [JE.out]
      rw [← e2]
      show _ = _
      rw [JE.out]
      rfl
     ·simp only [intOf]; show ks.length - ((t : Int) + 1).toNat < ks.length - ((t : Int)).toNat; omega
   ·have HRt : Keep (rgt xn = false) := ⟨by rw [← hrg.out]; simpa using h7_5⟩
    clear hrg
    refine VlS (.bool true) ?_
    refine VlS (.bool true) ?_
    refine VlS (.bool true) ?_
    refine SkS ?_
    refine SkS ?_
    refine SkS ?_
    refine SkS ?_
    refine SkS ?_
    refine SkS ?_
    refine VlS (.bool true) ?_
    refine WL.nil (hK12 _ _ ?_)
    refine wp_cond_true rfl ?_
    refine wp_exit ?_
    refine hK8 _ _ ?_
    refine rgn ?_
    refine VlS (.int .i64 ((t : Int) + 1)) ?_
    refine VlS (.int .i64 ((t : Int) + 1)) ?_
    refine WL.nil ?_
    refine ⟨⟨fun zz => [.int .i64 r, .slice (some ⟨q, ko, none⟩) ks.length kc, undef, undef, .pointer none, .pointer none, .pointer (some ⟨pd, 0, none⟩), .pointer (some ⟨ph, 0, none⟩), .pointer (some ⟨ps, 0, none⟩), undef, .pointer (some ⟨g7, 0, none⟩), .int .i64 (i : Int), .bool false, fz 13, .tuple #[.pointer (some ⟨pd, 0, none⟩), .pointer (some ⟨ph, 0, none⟩)], .int .i64 r, .tuple #[.pointer (some ⟨pd, 0, none⟩), .pointer (some ⟨ph, 0, none⟩)], .pointer (some ⟨pd, 0, none⟩), .pointer (some ⟨ph, 0, none⟩), .pointer (some ⟨pd, 0, none⟩), .pointer (some ⟨pd, 0, none⟩), .pointer (some ⟨pd, 0, none⟩), .pointer (some ⟨ps, 0, none⟩), .slice (some ⟨q, ko, none⟩) ks.length kc, .int .i64 (ks.length : Int), .int .i64 ((t : Int) + 1), .bool true, .pointer (some ⟨q, ko + t * 3, none⟩), .agg (fA (⟨xn, .slice xa x.bs.length xc, xs⟩ : FC)), .tuple #[.int .i64 (i : Int), .bool false], .pointer (some ⟨ps, 0, none⟩), .pointer (some ⟨g7, 0, none⟩), .string xn, .tuple #[.int .i64 (i : Int), .bool false], .int .i64 (i : Int), .bool false, .bool false, .bool false, .pointer (some ⟨g7, 0, none⟩), .string xn, .bool rg, .bool true, .bool true, .bool true, undef, undef, undef, undef, undef, undef, .bool true, fz 51, fz 52, fz 53, fz 54, fz 55, fz 56, fz 57, fz 58, fz 59, fz 60, fz 61, fz 62, fz 63, fz 64, fz 65, fz 66, fz 67, fz 68, fz 69, fz 70, fz 71, fz 72, fz 73, fz 74, fz 75, fz 76, fz 77, fz 78, fz 79, fz 80, fz 81, fz 82, fz 83, fz 84, fz 85, fz 86, fz 87, fz 88, fz 89, fz 90, fz 91, fz 92, fz 93, fz 94, fz 95, fz 96, .int .i64 ((t : Int) + 1), undef, undef, undef, undef, undef, undef, undef, undef, undef, undef, undef, undef, undef, undef].getD zz undef, t + 1, .slice va cs.length vc, cs, Dt, rfl, by omega, ?_, ED.out, JS.out, EP.out, EQ.out, EB.out⟩, ?_⟩
    ·have h1 : layStep (layT (ks.take t)) x = layT (ks.take t) := by
      have e : Dt.fs = layT (ks.take t) := by rw [JE.out]
      have h := HFd.out
      rw [HXn.out, e] at h
      unfold layStep
      rw [h, if_pos]
      exact .inr (.inl (by rw [← HXn.out]; exact HRt.out))
     rw [layT_snoc HKx.out, h1]
     exact JE.out
    ·simp only [intOf]; show ks.length - ((t : Int) + 1).toNat < ks.length - ((t : Int)).toNat; omega
  ·refine rgn ?_
   refine VlS (.pointer (some ⟨ps, 0, none⟩)) ?_
   refine VlS (.pointer (some ⟨g7, 0, none⟩)) ?_
   refine VlS (.string xn) ?_
   have hfa := find_any ps xn _ cs Dt wb KD.out (by rw [KD.out.fcs.len]; have := LOk.out.len; omega)
   rw [hfd] at hfa
   refine WL.callF (by kernel_rfl) 33 _ _ rfl Tryd.in33 #[ptr ps, .string xn] (by simp [Act.eval]) ?_
   refine (hfa).mono ?_
   rintro e w2 ⟨rfl, hb2⟩
   refine ⟨_, rfl, ?_⟩
   have E7 := Keep.mk (H7.out.below hb2 H7.out.lt)
   have ED := Keep.mk (KD.out.below hb2)
   have EP := Keep.mk (KP.out.below hb2 KP.out.lt)
   have EQ := Keep.mk (KQ.out.below hb2 KQ.out.lt)
   have EB : Keep (Below w.heap.size w w2) := ⟨KB.out.trans (hb2.mono KB.out.size)⟩
   have ER := Keep.mk (KR.out.below hb2)
   clear hb2 hfa c7 H7 KD KP KQ KB KR
   have HFd := Keep.mk hfd
   clear hfd
   have c7 := E7.out.c 0 (by rfl : (fA (⟨xn, .slice xa x.bs.length xc, xs⟩ : FC))[0]? = some (.string xn))
   have p0 := ED.out.blk.c 0 (by rfl : (stA (.slice va cs.length vc) Dt)[0]? = some (.slice va cs.length vc))
   simp only [Act.put, pqA, pqB, pqC]
   refine VlS (.tuple #[.int .i64 (i : Int), .bool true]) ?_
   refine VlS (.int .i64 (i : Int)) ?_
   refine VlS (.bool true) ?_
   refine VlS (.int .i64 (i : Int)) ?_
   refine VlS (.bool true) ?_
   refine WL.nil (hK10 _ _ ?_)
   refine wp_seq_k fun K16 hK16 => ?_
   refine wp_seq_k fun K17 hK17 => rgn ?_
   refine VlS (.bool true) ?_
   refine VlS (.bool true) ?_
   refine SkS ?_
   refine SkS ?_
   refine SkS ?_
   refine SkS ?_
   refine VlS (.bool true) ?_
   refine VlS (.bool true) ?_
   refine SkS ?_
   refine SkS ?_
   refine SkS ?_
   refine SkS ?_
   refine SkS ?_
   refine SkS ?_
   refine VlS (.bool true) ?_
   refine WL.nil (hK17 _ _ ?_)
   refine wp_cond_true rfl ?_
   refine wp_exit ?_
   refine hK8 _ _ ?_
   refine rgn ?_
   refine VlS (.int .i64 ((t : Int) + 1)) ?_
   refine VlS (.int .i64 ((t : Int) + 1)) ?_
   refine WL.nil ?_
   refine ⟨⟨fun zz => [.int .i64 r, .slice (some ⟨q, ko, none⟩) ks.length kc, undef, undef, .pointer none, .pointer none, .pointer (some ⟨pd, 0, none⟩), .pointer (some ⟨ph, 0, none⟩), .pointer (some ⟨ps, 0, none⟩), undef, .pointer (some ⟨g7, 0, none⟩), .int .i64 (i : Int), .bool true, fz 13, .tuple #[.pointer (some ⟨pd, 0, none⟩), .pointer (some ⟨ph, 0, none⟩)], .int .i64 r, .tuple #[.pointer (some ⟨pd, 0, none⟩), .pointer (some ⟨ph, 0, none⟩)], .pointer (some ⟨pd, 0, none⟩), .pointer (some ⟨ph, 0, none⟩), .pointer (some ⟨pd, 0, none⟩), .pointer (some ⟨pd, 0, none⟩), .pointer (some ⟨pd, 0, none⟩), .pointer (some ⟨ps, 0, none⟩), .slice (some ⟨q, ko, none⟩) ks.length kc, .int .i64 (ks.length : Int), .int .i64 ((t : Int) + 1), .bool true, .pointer (some ⟨q, ko + t * 3, none⟩), .agg (fA (⟨xn, .slice xa x.bs.length xc, xs⟩ : FC)), .tuple #[.int .i64 (i : Int), .bool true], .pointer (some ⟨ps, 0, none⟩), .pointer (some ⟨g7, 0, none⟩), .string xn, .tuple #[.int .i64 (i : Int), .bool true], .int .i64 (i : Int), .bool true, .bool true, .bool true, undef, undef, undef, undef, .bool true, .bool true, undef, undef, undef, undef, undef, undef, .bool true, fz 51, fz 52, fz 53, fz 54, fz 55, fz 56, fz 57, fz 58, fz 59, fz 60, fz 61, fz 62, fz 63, fz 64, fz 65, fz 66, fz 67, fz 68, fz 69, fz 70, fz 71, fz 72, fz 73, fz 74, fz 75, fz 76, fz 77, fz 78, fz 79, fz 80, fz 81, fz 82, fz 83, fz 84, fz 85, fz 86, fz 87, fz 88, fz 89, fz 90, fz 91, fz 92, fz 93, fz 94, fz 95, fz 96, .int .i64 ((t : Int) + 1), undef, undef, undef, undef, undef, undef, undef, undef, undef, undef, undef, undef, undef, undef].getD zz undef, t + 1, .slice va cs.length vc, cs, Dt, rfl, by omega, ?_, ED.out, JS.out, EP.out, EQ.out, EB.out⟩, ?_⟩
   ·have h1 : layStep (layT (ks.take t)) x = layT (ks.take t) := by
     have e : Dt.fs = layT (ks.take t) := by rw [JE.out]
     have h := HFd.out
     rw [HXn.out, e] at h
     unfold layStep
     rw [h, if_pos]
     exact .inl rfl
    rw [layT_snoc HKx.out, h1]
    exact JE.out
   ·simp only [intOf]; show ks.length - ((t : Int) + 1).toNat < ks.length - ((t : Int)).toNat; omega
 ·have hlt' : ¬ (t : Int) < (ks.length : Int) := by omega
  have JE2 : Keep (Dt = ⟨layT ks, max 0 r, usd (layT ks), -1, false, 0⟩) := ⟨by rw [JE.out, List.take_of_length_le (by omega)]⟩
  refine wp_seq_k fun K18 hK18 => rgn ?_
  refine VlS (.bool false) ?_
  refine WL.nil (hK18 _ _ ?_)
  refine wp_seq_k fun K19 hK19 => ?_
  refine wp_cond_false rfl ?_
  refine wp_exit ?_
  refine hK4 _ _ ?_
  refine wp_seq_k fun K20 hK20 => ?_
  have E9 : Keep (DskAt wr.drew ps (.slice va cs.length vc) cs Dt) := ⟨JD.out.grown (Grown.refl wr (fun _ => False)).drew fun _ _ h => h⟩
  have P9 : Keep (Blk wr.drew pd 75 #[ptr ps]) := ⟨JP.out.drew⟩
  have Q9 : Keep (Blk wr.drew ph 77 #[ptr ps]) := ⟨JQ.out.drew⟩
  have B9 : Keep (Below w.heap.size w wr.drew) := ⟨JB.out.drew⟩
  clear JD JP JQ JB
  refine wp_region_held_drew (S := fun wx => wx.cell? ⟨ps, 2, none⟩ = some (.int .i64 Dt.used)) (by kernel_rfl) (E9.out.blk.c 2 rfl) (fun hHeld => ?_)
  generalize wr.drew = w9 at *
  refine tkS (i := 0) (oi := ⟨some 98, Op.move (Operand.tmp 8), 71, _, _, none⟩) (v := .pointer (some ⟨ps, 0, none⟩)) rfl (Or.inl ⟨by rfl, fun w hS => by go_simp⟩) hHeld ?_
  refine tkS (i := 1) (oi := ⟨some 99, Op.move (Operand.tmp 8), 71, _, _, none⟩) (v := .pointer (some ⟨ps, 0, none⟩)) rfl (Or.inl ⟨by rfl, fun w hS => by go_simp⟩) hHeld ?_
  refine tkS (i := 2) (oi := ⟨some 100, Op.nilCheck (Operand.tmp 99), 0, _, _, none⟩) (v := .pointer (some ⟨ps, 0, none⟩)) rfl (Or.inl ⟨by rfl, fun w hS => by go_simp⟩) hHeld ?_
  refine tkS (i := 3) (oi := ⟨some 101, Op.fieldAddr 73 (Operand.tmp 100) 1, 0, _, _, none⟩) (v := .pointer (some ⟨ps, 1, none⟩)) rfl (Or.inl ⟨by rfl, fun w hS => by go_simp⟩) hHeld ?_
  refine tkS (i := 5) (oi := ⟨some 103, Op.move (Operand.tmp 8), 71, _, _, none⟩) (v := .pointer (some ⟨ps, 0, none⟩)) rfl (Or.inl ⟨by rfl, fun w hS => by go_simp⟩) hHeld ?_
  refine tkS (i := 6) (oi := ⟨some 104, Op.nilCheck (Operand.tmp 103), 0, _, _, none⟩) (v := .pointer (some ⟨ps, 0, none⟩)) rfl (Or.inl ⟨by rfl, fun w hS => by go_simp⟩) hHeld ?_
  refine tkS (i := 7) (oi := ⟨some 105, Op.fieldAddr 73 (Operand.tmp 104) 2, 0, _, _, none⟩) (v := .pointer (some ⟨ps, 2, none⟩)) rfl (Or.inl ⟨by rfl, fun w hS => by go_simp⟩) hHeld ?_
  refine tkS (i := 8) (oi := ⟨some 106, Op.load 3 (Operand.tmp 105), 3, _, _, none⟩) (v := .int .i64 Dt.used) rfl (Or.inl ⟨by rfl, fun w hS => by go_simp⟩) hHeld ?_
  refine wpAnyH_ready (rs := [4]) (by kernel_rfl) (by simp) ?_
  refine AllReadyH.cons (o := ⟨some 102, Op.load 3 (Operand.tmp 101), 3, _, _, none⟩) rfl (fun K hK => ?_) AllReadyH.nil
  rw [if_pos (by rfl)]
  have cl : w9.cell? ⟨ps, 1, none⟩ = some (.int .i64 Dt.room) := E9.out.blk.c 1 rfl
  refine wp_val (.int .i64 Dt.room) (by go_simp) ?_
  clear cl
  refine hK _ _ (E9.out.blk.c 2 rfl) fun hH1 => ?_
  clear hK
  simp only [Act.put, pqA, pqB, pqC]
  refine tkS (i := 9) (oi := ⟨some 107, Op.call { callee := Callee.builtin Builtin.max, args := #[Operand.tmp 102, Operand.tmp 106], argTypes := #[3, 3] }, 3, _, _, none⟩) (v := .int .i64 (max Dt.room Dt.used)) rfl (Or.inl ⟨by rfl, fun w hS => by go_simp⟩) hH1 ?_
  refine tkS (i := 10) (oi := ⟨some 108, Op.nilCheck (Operand.tmp 98), 0, _, _, none⟩) (v := .pointer (some ⟨ps, 0, none⟩)) rfl (Or.inl ⟨by rfl, fun w hS => by go_simp⟩) hH1 ?_
  refine tkS (i := 11) (oi := ⟨some 109, Op.fieldAddr 73 (Operand.tmp 108) 1, 0, _, _, none⟩) (v := .pointer (some ⟨ps, 1, none⟩)) rfl (Or.inl ⟨by rfl, fun w hS => by go_simp⟩) hH1 ?_
  refine wpAnyH_ready (rs := [12]) (by kernel_rfl) (by simp) ?_
  refine AllReadyH.cons (o := ⟨none, Op.store 3 (Operand.tmp 109) (Operand.tmp 107), 0, _, _, none⟩) rfl (fun K hK => ?_) AllReadyH.nil
  rw [if_pos (by rfl)]
  have f_o := E9.out.blk.frozen 1
  have cl : w9.cell? ⟨ps, 1, none⟩ = some (.int .i64 Dt.room) := E9.out.blk.c 1 rfl
  refine wp_cellS (w9.setCell ⟨ps, 1, none⟩ (.int .i64 (max Dt.room Dt.used))) (by go_simp) ?_
  clear f_o cl
  have hg9 : Grown w9 (w9.setCell ⟨ps, 1, none⟩ (.int .i64 (max Dt.room Dt.used))) fun k => k = ps := Grown.setCell w9 ps 1 _ fun _ => rfl
  have E12 : Keep (DskAt (w9.setCell ⟨ps, 1, none⟩ (.int .i64 (max Dt.room Dt.used))) ps (.slice va cs.length vc) cs { Dt with room := max Dt.room Dt.used }) := ⟨E9.out.put rfl rfl⟩
  have P12 : Keep (Blk (w9.setCell ⟨ps, 1, none⟩ (.int .i64 (max Dt.room Dt.used))) pd 75 #[ptr ps]) := ⟨hg9.blk P9.out fun e => by rw [e] at P9; have := P9.out.typ.one E9.out.blk.typ; revert this; decide⟩
  have Q12 : Keep (Blk (w9.setCell ⟨ps, 1, none⟩ (.int .i64 (max Dt.room Dt.used))) ph 77 #[ptr ps]) := ⟨hg9.blk Q9.out fun e => by rw [e] at Q9; have := Q9.out.typ.one E9.out.blk.typ; revert this; decide⟩
  have B12 : Keep (Below w.heap.size w (w9.setCell ⟨ps, 1, none⟩ (.int .i64 (max Dt.room Dt.used)))) := ⟨B9.out.trans ((hg9.to_below (B := w.heap.size) (fun k hk e => by have := JS.out k (.inl e); omega) B9.out.size))⟩
  clear hg9 E9 P9 Q9 B9
  generalize (w9.setCell ⟨ps, 1, none⟩ (.int .i64 (max Dt.room Dt.used))) = w12 at *
  refine hK _ _ (E12.out.blk.c 2 rfl) fun hS12 => ?_
  clear hK
  simp only [Act.put, pqA, pqB, pqC]
  refine wpAnyH_done (by kernel_rfl) ?_ _
  refine hK20 _ _ ?_
  refine wp_seq_k fun K21 hK21 => rgn ?_
  refine VlS (.pointer (some ⟨pd, 0, none⟩)) ?_
  refine VlS (.pointer (some ⟨ph, 0, none⟩)) ?_
  refine VlS (.pointer (some ⟨pd, 0, none⟩)) ?_
  refine VlS (.pointer (some ⟨ph, 0, none⟩)) ?_
  refine WL.nil (hK21 _ _ ?_)
  refine wp_ret ?_
  go_ret2
  have h := E12.out
  rw [JE2.out] at h
  exact ⟨ps, pd, ph, _, cs, rfl, h, P12.out, Q12.out, L1.out, JS.out, B12.out⟩
theorem Tryd.in15 (w : World) (vs : Array Value) : (callFunc 15 vs).run Tryd.prog w = .ok (.enter 15 vs) w := by kernel_rfl
set_option maxRecDepth 8000 in
set_option maxHeartbeats 4000000 in
theorem copy_any (h p : Nat) (vf : Value) (cs : List FC) (D : DV) (w : World) (hH : Blk w h 77 #[ptr p]) (hD : DskAt w p vf cs D) (hOk : LayOk D.fs) (hU : usd D.fs ≤ 1000000000) :
  Calls Tryd.prog 15 #[ptr h] w fun e w' => ∃ ps pd ph vf' cs', e = .returned (.tuple #[ptr pd, ptr ph]) ∧ DskAt w' ps vf' cs' { D with used := usd D.fs } ∧ Blk w' pd 75 #[ptr ps] ∧ Blk w' ph 77 #[ptr ps] ∧ (w.heap.size ≤ ps ∧ w.heap.size ≤ pd ∧ w.heap.size ≤ ph) ∧ (∀ k, DskS ps vf' cs' k → w.heap.size ≤ k) ∧ Below w.heap.size w w' := by
 obtain ⟨va, vc, rfl⟩ := hD.own.sl
 have HH := Keep.mk hH
 have HD := Keep.mk hD
 have HOk := Keep.mk hOk
 have HU := Keep.mk hU
 clear hH hD hOk hU
 go_enter Tryd.func15, Tryd.ntmps15
 refine wp_seq_k fun K1 hK1 => rgn ?_
 refine VlS (.pointer none) ?_
 refine VlS (.pointer none) ?_
 refine WL.nil (hK1 _ _ ?_)
 refine wp_seq_k fun K2 hK2 => ?_
 have HSx : Keep (∀ wx, Below w.heap.size w wx → wx.cell? ⟨h, 0, none⟩ = some (ptr p) ∧ wx.cell? ⟨p, 1, none⟩ = some (.int .i64 D.room) ∧ wx.cell? ⟨p, 0, none⟩ = some (.slice va cs.length vc)) := ⟨fun wx hb => ⟨(HH.out.below hb HH.out.lt).c 0 rfl, (HD.out.below hb).blk.c 1 rfl, (HD.out.below hb).blk.c 0 rfl⟩⟩
 have D4 : Keep (Below w.heap.size w w.drew) := ⟨(Below.refl _ _).drew⟩
 refine wp_region_held_drew (S := fun wx => wx.cell? ⟨h, 0, none⟩ = some (ptr p) ∧ wx.cell? ⟨p, 1, none⟩ = some (.int .i64 D.room) ∧ wx.cell? ⟨p, 0, none⟩ = some (.slice va cs.length vc)) (by kernel_rfl) (HSx.out _ D4.out) (fun hHeld => ?_)
 refine tkS (i := 0) (oi := ⟨some 7, Op.move (Operand.tmp 0), 31, _, _, none⟩) (v := .pointer (some ⟨h, 0, none⟩)) rfl (Or.inl ⟨by rfl, fun w hS => by obtain ⟨hS1, hS2, hS3⟩ := hS; go_simp⟩) hHeld ?_
 refine tkS (i := 1) (oi := ⟨some 8, Op.nilCheck (Operand.tmp 7), 0, _, _, none⟩) (v := .pointer (some ⟨h, 0, none⟩)) rfl (Or.inl ⟨by rfl, fun w hS => by obtain ⟨hS1, hS2, hS3⟩ := hS; go_simp⟩) hHeld ?_
 refine tkS (i := 2) (oi := ⟨some 9, Op.fieldAddr 77 (Operand.tmp 8) 0, 0, _, _, none⟩) (v := .pointer (some ⟨h, 0, none⟩)) rfl (Or.inl ⟨by rfl, fun w hS => by obtain ⟨hS1, hS2, hS3⟩ := hS; go_simp⟩) hHeld ?_
 refine tkS (i := 3) (oi := ⟨some 10, Op.load 71 (Operand.tmp 9), 71, _, _, none⟩) (v := .pointer (some ⟨p, 0, none⟩)) rfl (Or.inl ⟨by rfl, fun w hS => by obtain ⟨hS1, hS2, hS3⟩ := hS; go_simp⟩) hHeld ?_
 refine tkS (i := 4) (oi := ⟨some 11, Op.nilCheck (Operand.tmp 10), 0, _, _, none⟩) (v := .pointer (some ⟨p, 0, none⟩)) rfl (Or.inl ⟨by rfl, fun w hS => by obtain ⟨hS1, hS2, hS3⟩ := hS; go_simp⟩) hHeld ?_
 refine tkS (i := 5) (oi := ⟨some 12, Op.fieldAddr 73 (Operand.tmp 11) 1, 0, _, _, none⟩) (v := .pointer (some ⟨p, 1, none⟩)) rfl (Or.inl ⟨by rfl, fun w hS => by obtain ⟨hS1, hS2, hS3⟩ := hS; go_simp⟩) hHeld ?_
 refine tkS (i := 6) (oi := ⟨some 13, Op.load 3 (Operand.tmp 12), 3, _, _, none⟩) (v := .int .i64 D.room) rfl (Or.inl ⟨by rfl, fun w hS => by obtain ⟨hS1, hS2, hS3⟩ := hS; go_simp⟩) hHeld ?_
 refine tkS (i := 7) (oi := ⟨some 14, Op.move (Operand.tmp 0), 31, _, _, none⟩) (v := .pointer (some ⟨h, 0, none⟩)) rfl (Or.inl ⟨by rfl, fun w hS => by obtain ⟨hS1, hS2, hS3⟩ := hS; go_simp⟩) hHeld ?_
 refine tkS (i := 8) (oi := ⟨some 15, Op.nilCheck (Operand.tmp 14), 0, _, _, none⟩) (v := .pointer (some ⟨h, 0, none⟩)) rfl (Or.inl ⟨by rfl, fun w hS => by obtain ⟨hS1, hS2, hS3⟩ := hS; go_simp⟩) hHeld ?_
 refine tkS (i := 9) (oi := ⟨some 16, Op.fieldAddr 77 (Operand.tmp 15) 0, 0, _, _, none⟩) (v := .pointer (some ⟨h, 0, none⟩)) rfl (Or.inl ⟨by rfl, fun w hS => by obtain ⟨hS1, hS2, hS3⟩ := hS; go_simp⟩) hHeld ?_
 refine tkS (i := 10) (oi := ⟨some 17, Op.load 71 (Operand.tmp 16), 71, _, _, none⟩) (v := .pointer (some ⟨p, 0, none⟩)) rfl (Or.inl ⟨by rfl, fun w hS => by obtain ⟨hS1, hS2, hS3⟩ := hS; go_simp⟩) hHeld ?_
 refine tkS (i := 11) (oi := ⟨some 18, Op.nilCheck (Operand.tmp 17), 0, _, _, none⟩) (v := .pointer (some ⟨p, 0, none⟩)) rfl (Or.inl ⟨by rfl, fun w hS => by obtain ⟨hS1, hS2, hS3⟩ := hS; go_simp⟩) hHeld ?_
 refine tkS (i := 12) (oi := ⟨some 19, Op.fieldAddr 73 (Operand.tmp 18) 0, 0, _, _, none⟩) (v := .pointer (some ⟨p, 0, none⟩)) rfl (Or.inl ⟨by rfl, fun w hS => by obtain ⟨hS1, hS2, hS3⟩ := hS; go_simp⟩) hHeld ?_
 refine tkS (i := 13) (oi := ⟨some 20, Op.load 44 (Operand.tmp 19), 44, _, _, none⟩) (v := .slice va cs.length vc) rfl (Or.inl ⟨by rfl, fun w hS => by obtain ⟨hS1, hS2, hS3⟩ := hS; go_simp⟩) hHeld ?_
 refine wpAnyH_ready (rs := [14]) (by kernel_rfl) (by simp) ?_
 refine AllReadyH.cons (o := ⟨some 21, Op.call { callee := Callee.value (Operand.func 13), args := #[Operand.tmp 13, Operand.tmp 20], argTypes := #[3, 44] }, 32, _, _, none⟩) rfl (fun K hK => ?_) AllReadyH.nil
 rw [if_pos (by rfl)]
 refine wp_callF 13 _ _ rfl Tryd.in13 #[.int .i64 D.room, .slice va cs.length vc] (by simp [Act.eval]) (fun vz wz => ∃ ps pd ph vf2 cs2, vz = .tuple #[ptr pd, ptr ph] ∧ DskAt wz ps vf2 cs2 (layD D.room D.fs) ∧ Blk wz pd 75 #[ptr ps] ∧ Blk wz ph 77 #[ptr ps] ∧ (w.heap.size ≤ ps ∧ w.heap.size ≤ pd ∧ w.heap.size ≤ ph) ∧ (∀ k, DskS ps vf2 cs2 k → w.heap.size ≤ k) ∧ Below w.heap.size w wz) ?_ ?_
 ·refine (dlay_any D.room (.slice va cs.length vc) D.fs w.drew (files_of (HD.out.below D4.out).own (HD.out.below D4.out).fcs) (by have := HOk.out.len; omega) HU.out).mono ?_
  rintro e wz ⟨ps, pd, ph, vf2, cs2, rfl, h1, h2, h3, h4, h5, h6⟩
  exact ⟨_, rfl, ps, pd, ph, vf2, cs2, rfl, h1, h2, h3, h4, h5, D4.out.trans h6⟩
 rintro vz w2 ⟨ps, pd, ph, vf2, cs2, rfl, h1, h2, h3, h4, h5, h6⟩
 have E2 := Keep.mk h1
 have P2 := Keep.mk h2
 have Q2 := Keep.mk h3
 have L2 := Keep.mk h4
 have S2 := Keep.mk h5
 have B2 := Keep.mk h6
 clear h1 h2 h3 h4 h5 h6
 refine hK _ _ (HSx.out _ B2.out) fun hH2 => ?_
 clear hK
 simp only [Act.put, pqA, pqB, pqC]
 refine tkS (i := 15) (oi := ⟨some 6, Op.move (Operand.tmp 21), 32, _, _, none⟩) (v := .tuple #[.pointer (some ⟨pd, 0, none⟩), .pointer (some ⟨ph, 0, none⟩)]) rfl (Or.inl ⟨by rfl, fun w hS => by obtain ⟨hS1, hS2, hS3⟩ := hS; go_simp⟩) hH2 ?_
 refine tkS (i := 16) (oi := ⟨some 22, Op.extract (Operand.tmp 6) 0, 30, _, _, none⟩) (v := .pointer (some ⟨pd, 0, none⟩)) rfl (Or.inl ⟨by rfl, fun w hS => by obtain ⟨hS1, hS2, hS3⟩ := hS; go_simp⟩) hH2 ?_
 refine tkS (i := 17) (oi := ⟨some 23, Op.extract (Operand.tmp 6) 1, 31, _, _, none⟩) (v := .pointer (some ⟨ph, 0, none⟩)) rfl (Or.inl ⟨by rfl, fun w hS => by obtain ⟨hS1, hS2, hS3⟩ := hS; go_simp⟩) hH2 ?_
 refine tkS (i := 18) (oi := ⟨some 4, Op.assign (Operand.tmp 22), 30, _, _, none⟩) (v := .pointer (some ⟨pd, 0, none⟩)) rfl (Or.inl ⟨by rfl, fun w hS => by obtain ⟨hS1, hS2, hS3⟩ := hS; go_simp⟩) hH2 ?_
 refine tkS (i := 19) (oi := ⟨some 5, Op.assign (Operand.tmp 23), 31, _, _, none⟩) (v := .pointer (some ⟨ph, 0, none⟩)) rfl (Or.inl ⟨by rfl, fun w hS => by obtain ⟨hS1, hS2, hS3⟩ := hS; go_simp⟩) hH2 ?_
 refine wpAnyH_done (by kernel_rfl) ?_ _
 refine hK2 _ _ ?_
 refine wp_seq_k fun K3 hK3 => ?_
 have HSx : Keep (∀ wx, Below w.heap.size w wx → Blk wx pd 75 #[ptr ps] → wx.cell? ⟨pd, 0, none⟩ = some (ptr ps) ∧ wx.cell? ⟨h, 0, none⟩ = some (ptr p) ∧ wx.cell? ⟨p, 1, none⟩ = some (.int .i64 D.room) ∧ wx.cell? ⟨p, 3, none⟩ = some (.int .i64 D.fuse) ∧ wx.cell? ⟨p, 4, none⟩ = some (.bool D.out) ∧ wx.cell? ⟨p, 5, none⟩ = some (.int .i64 D.acts)) := ⟨fun wx hb h => ⟨h.c 0 rfl, (HH.out.below hb HH.out.lt).c 0 rfl, (HD.out.below hb).blk.c 1 rfl, (HD.out.below hb).blk.c 3 rfl, (HD.out.below hb).blk.c 4 rfl, (HD.out.below hb).blk.c 5 rfl⟩⟩
 have E3 : Keep (DskAt w2.drew ps vf2 cs2 (layD D.room D.fs)) := ⟨E2.out.grown (Grown.refl w2 (fun _ => False)).drew fun _ _ h => h⟩
 have P3 : Keep (Blk w2.drew pd 75 #[ptr ps]) := ⟨P2.out.drew⟩
 have Q3 : Keep (Blk w2.drew ph 77 #[ptr ps]) := ⟨Q2.out.drew⟩
 have B3 : Keep (Below w.heap.size w w2.drew) := ⟨B2.out.drew⟩
 clear E2 P2 Q2 B2
 refine wp_region_held_drew (S := fun wx => wx.cell? ⟨pd, 0, none⟩ = some (ptr ps) ∧ wx.cell? ⟨h, 0, none⟩ = some (ptr p) ∧ wx.cell? ⟨p, 1, none⟩ = some (.int .i64 D.room) ∧ wx.cell? ⟨p, 3, none⟩ = some (.int .i64 D.fuse) ∧ wx.cell? ⟨p, 4, none⟩ = some (.bool D.out) ∧ wx.cell? ⟨p, 5, none⟩ = some (.int .i64 D.acts)) (by kernel_rfl) (HSx.out _ B3.out P3.out) (fun hHeld => ?_)
 generalize w2.drew = w3 at *
 refine tkS (i := 0) (oi := ⟨some 24, Op.move (Operand.tmp 4), 30, _, _, none⟩) (v := .pointer (some ⟨pd, 0, none⟩)) rfl (Or.inl ⟨by rfl, fun w hS => by obtain ⟨hS0, hS1, hS2, hS3, hS4, hS5⟩ := hS; go_simp⟩) hHeld ?_
 refine tkS (i := 1) (oi := ⟨some 25, Op.nilCheck (Operand.tmp 24), 0, _, _, none⟩) (v := .pointer (some ⟨pd, 0, none⟩)) rfl (Or.inl ⟨by rfl, fun w hS => by obtain ⟨hS0, hS1, hS2, hS3, hS4, hS5⟩ := hS; go_simp⟩) hHeld ?_
 refine tkS (i := 2) (oi := ⟨some 26, Op.fieldAddr 75 (Operand.tmp 25) 0, 0, _, _, none⟩) (v := .pointer (some ⟨pd, 0, none⟩)) rfl (Or.inl ⟨by rfl, fun w hS => by obtain ⟨hS0, hS1, hS2, hS3, hS4, hS5⟩ := hS; go_simp⟩) hHeld ?_
 refine tkS (i := 3) (oi := ⟨some 27, Op.load 71 (Operand.tmp 26), 71, _, _, none⟩) (v := .pointer (some ⟨ps, 0, none⟩)) rfl (Or.inl ⟨by rfl, fun w hS => by obtain ⟨hS0, hS1, hS2, hS3, hS4, hS5⟩ := hS; go_simp⟩) hHeld ?_
 refine tkS (i := 4) (oi := ⟨some 28, Op.move (Operand.tmp 4), 30, _, _, none⟩) (v := .pointer (some ⟨pd, 0, none⟩)) rfl (Or.inl ⟨by rfl, fun w hS => by obtain ⟨hS0, hS1, hS2, hS3, hS4, hS5⟩ := hS; go_simp⟩) hHeld ?_
 refine tkS (i := 5) (oi := ⟨some 29, Op.nilCheck (Operand.tmp 28), 0, _, _, none⟩) (v := .pointer (some ⟨pd, 0, none⟩)) rfl (Or.inl ⟨by rfl, fun w hS => by obtain ⟨hS0, hS1, hS2, hS3, hS4, hS5⟩ := hS; go_simp⟩) hHeld ?_
 refine tkS (i := 6) (oi := ⟨some 30, Op.fieldAddr 75 (Operand.tmp 29) 0, 0, _, _, none⟩) (v := .pointer (some ⟨pd, 0, none⟩)) rfl (Or.inl ⟨by rfl, fun w hS => by obtain ⟨hS0, hS1, hS2, hS3, hS4, hS5⟩ := hS; go_simp⟩) hHeld ?_
 refine tkS (i := 7) (oi := ⟨some 31, Op.load 71 (Operand.tmp 30), 71, _, _, none⟩) (v := .pointer (some ⟨ps, 0, none⟩)) rfl (Or.inl ⟨by rfl, fun w hS => by obtain ⟨hS0, hS1, hS2, hS3, hS4, hS5⟩ := hS; go_simp⟩) hHeld ?_
 refine tkS (i := 8) (oi := ⟨some 32, Op.move (Operand.tmp 4), 30, _, _, none⟩) (v := .pointer (some ⟨pd, 0, none⟩)) rfl (Or.inl ⟨by rfl, fun w hS => by obtain ⟨hS0, hS1, hS2, hS3, hS4, hS5⟩ := hS; go_simp⟩) hHeld ?_
 refine tkS (i := 9) (oi := ⟨some 33, Op.nilCheck (Operand.tmp 32), 0, _, _, none⟩) (v := .pointer (some ⟨pd, 0, none⟩)) rfl (Or.inl ⟨by rfl, fun w hS => by obtain ⟨hS0, hS1, hS2, hS3, hS4, hS5⟩ := hS; go_simp⟩) hHeld ?_
 refine tkS (i := 10) (oi := ⟨some 34, Op.fieldAddr 75 (Operand.tmp 33) 0, 0, _, _, none⟩) (v := .pointer (some ⟨pd, 0, none⟩)) rfl (Or.inl ⟨by rfl, fun w hS => by obtain ⟨hS0, hS1, hS2, hS3, hS4, hS5⟩ := hS; go_simp⟩) hHeld ?_
 refine tkS (i := 11) (oi := ⟨some 35, Op.load 71 (Operand.tmp 34), 71, _, _, none⟩) (v := .pointer (some ⟨ps, 0, none⟩)) rfl (Or.inl ⟨by rfl, fun w hS => by obtain ⟨hS0, hS1, hS2, hS3, hS4, hS5⟩ := hS; go_simp⟩) hHeld ?_
 refine tkS (i := 12) (oi := ⟨some 36, Op.move (Operand.tmp 4), 30, _, _, none⟩) (v := .pointer (some ⟨pd, 0, none⟩)) rfl (Or.inl ⟨by rfl, fun w hS => by obtain ⟨hS0, hS1, hS2, hS3, hS4, hS5⟩ := hS; go_simp⟩) hHeld ?_
 refine tkS (i := 13) (oi := ⟨some 37, Op.nilCheck (Operand.tmp 36), 0, _, _, none⟩) (v := .pointer (some ⟨pd, 0, none⟩)) rfl (Or.inl ⟨by rfl, fun w hS => by obtain ⟨hS0, hS1, hS2, hS3, hS4, hS5⟩ := hS; go_simp⟩) hHeld ?_
 refine tkS (i := 14) (oi := ⟨some 38, Op.fieldAddr 75 (Operand.tmp 37) 0, 0, _, _, none⟩) (v := .pointer (some ⟨pd, 0, none⟩)) rfl (Or.inl ⟨by rfl, fun w hS => by obtain ⟨hS0, hS1, hS2, hS3, hS4, hS5⟩ := hS; go_simp⟩) hHeld ?_
 refine tkS (i := 15) (oi := ⟨some 39, Op.load 71 (Operand.tmp 38), 71, _, _, none⟩) (v := .pointer (some ⟨ps, 0, none⟩)) rfl (Or.inl ⟨by rfl, fun w hS => by obtain ⟨hS0, hS1, hS2, hS3, hS4, hS5⟩ := hS; go_simp⟩) hHeld ?_
 refine tkS (i := 16) (oi := ⟨some 40, Op.move (Operand.tmp 0), 31, _, _, none⟩) (v := .pointer (some ⟨h, 0, none⟩)) rfl (Or.inl ⟨by rfl, fun w hS => by obtain ⟨hS0, hS1, hS2, hS3, hS4, hS5⟩ := hS; go_simp⟩) hHeld ?_
 refine tkS (i := 17) (oi := ⟨some 41, Op.nilCheck (Operand.tmp 40), 0, _, _, none⟩) (v := .pointer (some ⟨h, 0, none⟩)) rfl (Or.inl ⟨by rfl, fun w hS => by obtain ⟨hS0, hS1, hS2, hS3, hS4, hS5⟩ := hS; go_simp⟩) hHeld ?_
 refine tkS (i := 18) (oi := ⟨some 42, Op.fieldAddr 77 (Operand.tmp 41) 0, 0, _, _, none⟩) (v := .pointer (some ⟨h, 0, none⟩)) rfl (Or.inl ⟨by rfl, fun w hS => by obtain ⟨hS0, hS1, hS2, hS3, hS4, hS5⟩ := hS; go_simp⟩) hHeld ?_
 refine tkS (i := 19) (oi := ⟨some 43, Op.load 71 (Operand.tmp 42), 71, _, _, none⟩) (v := .pointer (some ⟨p, 0, none⟩)) rfl (Or.inl ⟨by rfl, fun w hS => by obtain ⟨hS0, hS1, hS2, hS3, hS4, hS5⟩ := hS; go_simp⟩) hHeld ?_
 refine tkS (i := 20) (oi := ⟨some 44, Op.nilCheck (Operand.tmp 43), 0, _, _, none⟩) (v := .pointer (some ⟨p, 0, none⟩)) rfl (Or.inl ⟨by rfl, fun w hS => by obtain ⟨hS0, hS1, hS2, hS3, hS4, hS5⟩ := hS; go_simp⟩) hHeld ?_
 refine tkS (i := 21) (oi := ⟨some 45, Op.fieldAddr 73 (Operand.tmp 44) 1, 0, _, _, none⟩) (v := .pointer (some ⟨p, 1, none⟩)) rfl (Or.inl ⟨by rfl, fun w hS => by obtain ⟨hS0, hS1, hS2, hS3, hS4, hS5⟩ := hS; go_simp⟩) hHeld ?_
 refine tkS (i := 22) (oi := ⟨some 46, Op.load 3 (Operand.tmp 45), 3, _, _, none⟩) (v := .int .i64 D.room) rfl (Or.inl ⟨by rfl, fun w hS => by obtain ⟨hS0, hS1, hS2, hS3, hS4, hS5⟩ := hS; go_simp⟩) hHeld ?_
 refine tkS (i := 23) (oi := ⟨some 47, Op.move (Operand.tmp 0), 31, _, _, none⟩) (v := .pointer (some ⟨h, 0, none⟩)) rfl (Or.inl ⟨by rfl, fun w hS => by obtain ⟨hS0, hS1, hS2, hS3, hS4, hS5⟩ := hS; go_simp⟩) hHeld ?_
 refine tkS (i := 24) (oi := ⟨some 48, Op.nilCheck (Operand.tmp 47), 0, _, _, none⟩) (v := .pointer (some ⟨h, 0, none⟩)) rfl (Or.inl ⟨by rfl, fun w hS => by obtain ⟨hS0, hS1, hS2, hS3, hS4, hS5⟩ := hS; go_simp⟩) hHeld ?_
 refine tkS (i := 25) (oi := ⟨some 49, Op.fieldAddr 77 (Operand.tmp 48) 0, 0, _, _, none⟩) (v := .pointer (some ⟨h, 0, none⟩)) rfl (Or.inl ⟨by rfl, fun w hS => by obtain ⟨hS0, hS1, hS2, hS3, hS4, hS5⟩ := hS; go_simp⟩) hHeld ?_
 refine tkS (i := 26) (oi := ⟨some 50, Op.load 71 (Operand.tmp 49), 71, _, _, none⟩) (v := .pointer (some ⟨p, 0, none⟩)) rfl (Or.inl ⟨by rfl, fun w hS => by obtain ⟨hS0, hS1, hS2, hS3, hS4, hS5⟩ := hS; go_simp⟩) hHeld ?_
 refine tkS (i := 27) (oi := ⟨some 51, Op.nilCheck (Operand.tmp 50), 0, _, _, none⟩) (v := .pointer (some ⟨p, 0, none⟩)) rfl (Or.inl ⟨by rfl, fun w hS => by obtain ⟨hS0, hS1, hS2, hS3, hS4, hS5⟩ := hS; go_simp⟩) hHeld ?_
 refine tkS (i := 28) (oi := ⟨some 52, Op.fieldAddr 73 (Operand.tmp 51) 3, 0, _, _, none⟩) (v := .pointer (some ⟨p, 3, none⟩)) rfl (Or.inl ⟨by rfl, fun w hS => by obtain ⟨hS0, hS1, hS2, hS3, hS4, hS5⟩ := hS; go_simp⟩) hHeld ?_
 refine tkS (i := 29) (oi := ⟨some 53, Op.load 3 (Operand.tmp 52), 3, _, _, none⟩) (v := .int .i64 D.fuse) rfl (Or.inl ⟨by rfl, fun w hS => by obtain ⟨hS0, hS1, hS2, hS3, hS4, hS5⟩ := hS; go_simp⟩) hHeld ?_
 refine tkS (i := 30) (oi := ⟨some 54, Op.move (Operand.tmp 0), 31, _, _, none⟩) (v := .pointer (some ⟨h, 0, none⟩)) rfl (Or.inl ⟨by rfl, fun w hS => by obtain ⟨hS0, hS1, hS2, hS3, hS4, hS5⟩ := hS; go_simp⟩) hHeld ?_
 refine tkS (i := 31) (oi := ⟨some 55, Op.nilCheck (Operand.tmp 54), 0, _, _, none⟩) (v := .pointer (some ⟨h, 0, none⟩)) rfl (Or.inl ⟨by rfl, fun w hS => by obtain ⟨hS0, hS1, hS2, hS3, hS4, hS5⟩ := hS; go_simp⟩) hHeld ?_
 refine tkS (i := 32) (oi := ⟨some 56, Op.fieldAddr 77 (Operand.tmp 55) 0, 0, _, _, none⟩) (v := .pointer (some ⟨h, 0, none⟩)) rfl (Or.inl ⟨by rfl, fun w hS => by obtain ⟨hS0, hS1, hS2, hS3, hS4, hS5⟩ := hS; go_simp⟩) hHeld ?_
 refine tkS (i := 33) (oi := ⟨some 57, Op.load 71 (Operand.tmp 56), 71, _, _, none⟩) (v := .pointer (some ⟨p, 0, none⟩)) rfl (Or.inl ⟨by rfl, fun w hS => by obtain ⟨hS0, hS1, hS2, hS3, hS4, hS5⟩ := hS; go_simp⟩) hHeld ?_
 refine tkS (i := 34) (oi := ⟨some 58, Op.nilCheck (Operand.tmp 57), 0, _, _, none⟩) (v := .pointer (some ⟨p, 0, none⟩)) rfl (Or.inl ⟨by rfl, fun w hS => by obtain ⟨hS0, hS1, hS2, hS3, hS4, hS5⟩ := hS; go_simp⟩) hHeld ?_
 refine tkS (i := 35) (oi := ⟨some 59, Op.fieldAddr 73 (Operand.tmp 58) 4, 0, _, _, none⟩) (v := .pointer (some ⟨p, 4, none⟩)) rfl (Or.inl ⟨by rfl, fun w hS => by obtain ⟨hS0, hS1, hS2, hS3, hS4, hS5⟩ := hS; go_simp⟩) hHeld ?_
 refine tkS (i := 36) (oi := ⟨some 60, Op.load 4 (Operand.tmp 59), 4, _, _, none⟩) (v := .bool D.out) rfl (Or.inl ⟨by rfl, fun w hS => by obtain ⟨hS0, hS1, hS2, hS3, hS4, hS5⟩ := hS; go_simp⟩) hHeld ?_
 refine tkS (i := 37) (oi := ⟨some 61, Op.move (Operand.tmp 0), 31, _, _, none⟩) (v := .pointer (some ⟨h, 0, none⟩)) rfl (Or.inl ⟨by rfl, fun w hS => by obtain ⟨hS0, hS1, hS2, hS3, hS4, hS5⟩ := hS; go_simp⟩) hHeld ?_
 refine tkS (i := 38) (oi := ⟨some 62, Op.nilCheck (Operand.tmp 61), 0, _, _, none⟩) (v := .pointer (some ⟨h, 0, none⟩)) rfl (Or.inl ⟨by rfl, fun w hS => by obtain ⟨hS0, hS1, hS2, hS3, hS4, hS5⟩ := hS; go_simp⟩) hHeld ?_
 refine tkS (i := 39) (oi := ⟨some 63, Op.fieldAddr 77 (Operand.tmp 62) 0, 0, _, _, none⟩) (v := .pointer (some ⟨h, 0, none⟩)) rfl (Or.inl ⟨by rfl, fun w hS => by obtain ⟨hS0, hS1, hS2, hS3, hS4, hS5⟩ := hS; go_simp⟩) hHeld ?_
 refine tkS (i := 40) (oi := ⟨some 64, Op.load 71 (Operand.tmp 63), 71, _, _, none⟩) (v := .pointer (some ⟨p, 0, none⟩)) rfl (Or.inl ⟨by rfl, fun w hS => by obtain ⟨hS0, hS1, hS2, hS3, hS4, hS5⟩ := hS; go_simp⟩) hHeld ?_
 refine tkS (i := 41) (oi := ⟨some 65, Op.nilCheck (Operand.tmp 64), 0, _, _, none⟩) (v := .pointer (some ⟨p, 0, none⟩)) rfl (Or.inl ⟨by rfl, fun w hS => by obtain ⟨hS0, hS1, hS2, hS3, hS4, hS5⟩ := hS; go_simp⟩) hHeld ?_
 refine tkS (i := 42) (oi := ⟨some 66, Op.fieldAddr 73 (Operand.tmp 65) 5, 0, _, _, none⟩) (v := .pointer (some ⟨p, 5, none⟩)) rfl (Or.inl ⟨by rfl, fun w hS => by obtain ⟨hS0, hS1, hS2, hS3, hS4, hS5⟩ := hS; go_simp⟩) hHeld ?_
 refine tkS (i := 43) (oi := ⟨some 67, Op.load 3 (Operand.tmp 66), 3, _, _, none⟩) (v := .int .i64 D.acts) rfl (Or.inl ⟨by rfl, fun w hS => by obtain ⟨hS0, hS1, hS2, hS3, hS4, hS5⟩ := hS; go_simp⟩) hHeld ?_
 refine tkS (i := 44) (oi := ⟨some 68, Op.nilCheck (Operand.tmp 27), 0, _, _, none⟩) (v := .pointer (some ⟨ps, 0, none⟩)) rfl (Or.inl ⟨by rfl, fun w hS => by obtain ⟨hS0, hS1, hS2, hS3, hS4, hS5⟩ := hS; go_simp⟩) hHeld ?_
 refine tkS (i := 45) (oi := ⟨some 69, Op.fieldAddr 73 (Operand.tmp 68) 1, 0, _, _, none⟩) (v := .pointer (some ⟨ps, 1, none⟩)) rfl (Or.inl ⟨by rfl, fun w hS => by obtain ⟨hS0, hS1, hS2, hS3, hS4, hS5⟩ := hS; go_simp⟩) hHeld ?_
 refine wpAnyH_ready (rs := [46]) (by kernel_rfl) (by simp) ?_
 refine AllReadyH.cons (o := ⟨none, Op.store 3 (Operand.tmp 69) (Operand.tmp 46), 0, _, _, none⟩) rfl (fun K hK => ?_) AllReadyH.nil
 rw [if_pos (by rfl)]
 have f_o := E3.out.blk.frozen 1
 have cl : w3.cell? ⟨ps, 1, none⟩ = some (.int .i64 (layD D.room D.fs).room) := E3.out.blk.c 1 rfl
 refine wp_cellS (w3.setCell ⟨ps, 1, none⟩ (.int .i64 D.room)) (by go_simp) ?_
 clear f_o cl
 have hg9 : Grown w3 (w3.setCell ⟨ps, 1, none⟩ (.int .i64 D.room)) fun k => k = ps := Grown.setCell w3 ps 1 _ fun _ => rfl
 have E4 : Keep (DskAt (w3.setCell ⟨ps, 1, none⟩ (.int .i64 D.room)) ps vf2 cs2 { (layD D.room D.fs) with room := D.room }) := ⟨E3.out.put rfl rfl⟩
 have P4 : Keep (Blk (w3.setCell ⟨ps, 1, none⟩ (.int .i64 D.room)) pd 75 #[ptr ps]) := ⟨hg9.blk P3.out fun e => by rw [e] at P3; have := P3.out.typ.one E3.out.blk.typ; revert this; decide⟩
 have Q4 : Keep (Blk (w3.setCell ⟨ps, 1, none⟩ (.int .i64 D.room)) ph 77 #[ptr ps]) := ⟨hg9.blk Q3.out fun e => by rw [e] at Q3; have := Q3.out.typ.one E3.out.blk.typ; revert this; decide⟩
 have B4 : Keep (Below w.heap.size w (w3.setCell ⟨ps, 1, none⟩ (.int .i64 D.room))) := ⟨B3.out.trans ((hg9.to_below (B := w.heap.size) (fun k hk e => by have := L2.out.1; omega) B3.out.size))⟩
 clear hg9 E3 P3 Q3 B3
 generalize (w3.setCell ⟨ps, 1, none⟩ (.int .i64 D.room)) = w4 at *
 refine hK _ _ (HSx.out _ B4.out P4.out) fun hS4 => ?_
 clear hK
 simp only [Act.put, pqA, pqB, pqC]
 refine tkS (i := 47) (oi := ⟨some 70, Op.nilCheck (Operand.tmp 31), 0, _, _, none⟩) (v := .pointer (some ⟨ps, 0, none⟩)) rfl (Or.inl ⟨by rfl, fun w hS => by obtain ⟨hS0, hS1, hS2, hS3, hS4, hS5⟩ := hS; go_simp⟩) hS4 ?_
 refine tkS (i := 48) (oi := ⟨some 71, Op.fieldAddr 73 (Operand.tmp 70) 3, 0, _, _, none⟩) (v := .pointer (some ⟨ps, 3, none⟩)) rfl (Or.inl ⟨by rfl, fun w hS => by obtain ⟨hS0, hS1, hS2, hS3, hS4, hS5⟩ := hS; go_simp⟩) hS4 ?_
 refine wpAnyH_ready (rs := [49]) (by kernel_rfl) (by simp) ?_
 refine AllReadyH.cons (o := ⟨none, Op.store 3 (Operand.tmp 71) (Operand.tmp 53), 0, _, _, none⟩) rfl (fun K hK => ?_) AllReadyH.nil
 rw [if_pos (by rfl)]
 have f_o := E4.out.blk.frozen 3
 have cl : w4.cell? ⟨ps, 3, none⟩ = some (.int .i64 { (layD D.room D.fs) with room := D.room }.fuse) := E4.out.blk.c 3 rfl
 refine wp_cellS (w4.setCell ⟨ps, 3, none⟩ (.int .i64 D.fuse)) (by go_simp) ?_
 clear f_o cl
 have hg9 : Grown w4 (w4.setCell ⟨ps, 3, none⟩ (.int .i64 D.fuse)) fun k => k = ps := Grown.setCell w4 ps 3 _ fun _ => rfl
 have E5 : Keep (DskAt (w4.setCell ⟨ps, 3, none⟩ (.int .i64 D.fuse)) ps vf2 cs2 { { (layD D.room D.fs) with room := D.room } with fuse := D.fuse }) := ⟨E4.out.put rfl rfl⟩
 have P5 : Keep (Blk (w4.setCell ⟨ps, 3, none⟩ (.int .i64 D.fuse)) pd 75 #[ptr ps]) := ⟨hg9.blk P4.out fun e => by rw [e] at P4; have := P4.out.typ.one E4.out.blk.typ; revert this; decide⟩
 have Q5 : Keep (Blk (w4.setCell ⟨ps, 3, none⟩ (.int .i64 D.fuse)) ph 77 #[ptr ps]) := ⟨hg9.blk Q4.out fun e => by rw [e] at Q4; have := Q4.out.typ.one E4.out.blk.typ; revert this; decide⟩
 have B5 : Keep (Below w.heap.size w (w4.setCell ⟨ps, 3, none⟩ (.int .i64 D.fuse))) := ⟨B4.out.trans ((hg9.to_below (B := w.heap.size) (fun k hk e => by have := L2.out.1; omega) B4.out.size))⟩
 clear hg9 E4 P4 Q4 B4
 generalize (w4.setCell ⟨ps, 3, none⟩ (.int .i64 D.fuse)) = w5 at *
 refine hK _ _ (HSx.out _ B5.out P5.out) fun hS5 => ?_
 clear hK
 simp only [Act.put, pqA, pqB, pqC]
 refine tkS (i := 50) (oi := ⟨some 72, Op.nilCheck (Operand.tmp 35), 0, _, _, none⟩) (v := .pointer (some ⟨ps, 0, none⟩)) rfl (Or.inl ⟨by rfl, fun w hS => by obtain ⟨hS0, hS1, hS2, hS3, hS4, hS5⟩ := hS; go_simp⟩) hS5 ?_
 refine tkS (i := 51) (oi := ⟨some 73, Op.fieldAddr 73 (Operand.tmp 72) 4, 0, _, _, none⟩) (v := .pointer (some ⟨ps, 4, none⟩)) rfl (Or.inl ⟨by rfl, fun w hS => by obtain ⟨hS0, hS1, hS2, hS3, hS4, hS5⟩ := hS; go_simp⟩) hS5 ?_
 refine wpAnyH_ready (rs := [52]) (by kernel_rfl) (by simp) ?_
 refine AllReadyH.cons (o := ⟨none, Op.store 4 (Operand.tmp 73) (Operand.tmp 60), 0, _, _, none⟩) rfl (fun K hK => ?_) AllReadyH.nil
 rw [if_pos (by rfl)]
 have f_o := E5.out.blk.frozen 4
 have cl : w5.cell? ⟨ps, 4, none⟩ = some (.bool { { (layD D.room D.fs) with room := D.room } with fuse := D.fuse }.out) := E5.out.blk.c 4 rfl
 refine wp_cellS (w5.setCell ⟨ps, 4, none⟩ (.bool D.out)) (by go_simp) ?_
 clear f_o cl
 have hg9 : Grown w5 (w5.setCell ⟨ps, 4, none⟩ (.bool D.out)) fun k => k = ps := Grown.setCell w5 ps 4 _ fun _ => rfl
 have E6 : Keep (DskAt (w5.setCell ⟨ps, 4, none⟩ (.bool D.out)) ps vf2 cs2 { { { (layD D.room D.fs) with room := D.room } with fuse := D.fuse } with out := D.out }) := ⟨E5.out.put rfl rfl⟩
 have P6 : Keep (Blk (w5.setCell ⟨ps, 4, none⟩ (.bool D.out)) pd 75 #[ptr ps]) := ⟨hg9.blk P5.out fun e => by rw [e] at P5; have := P5.out.typ.one E5.out.blk.typ; revert this; decide⟩
 have Q6 : Keep (Blk (w5.setCell ⟨ps, 4, none⟩ (.bool D.out)) ph 77 #[ptr ps]) := ⟨hg9.blk Q5.out fun e => by rw [e] at Q5; have := Q5.out.typ.one E5.out.blk.typ; revert this; decide⟩
 have B6 : Keep (Below w.heap.size w (w5.setCell ⟨ps, 4, none⟩ (.bool D.out))) := ⟨B5.out.trans ((hg9.to_below (B := w.heap.size) (fun k hk e => by have := L2.out.1; omega) B5.out.size))⟩
 clear hg9 E5 P5 Q5 B5
 generalize (w5.setCell ⟨ps, 4, none⟩ (.bool D.out)) = w6 at *
 refine hK _ _ (HSx.out _ B6.out P6.out) fun hS6 => ?_
 clear hK
 simp only [Act.put, pqA, pqB, pqC]
 refine tkS (i := 53) (oi := ⟨some 74, Op.nilCheck (Operand.tmp 39), 0, _, _, none⟩) (v := .pointer (some ⟨ps, 0, none⟩)) rfl (Or.inl ⟨by rfl, fun w hS => by obtain ⟨hS0, hS1, hS2, hS3, hS4, hS5⟩ := hS; go_simp⟩) hS6 ?_
 refine tkS (i := 54) (oi := ⟨some 75, Op.fieldAddr 73 (Operand.tmp 74) 5, 0, _, _, none⟩) (v := .pointer (some ⟨ps, 5, none⟩)) rfl (Or.inl ⟨by rfl, fun w hS => by obtain ⟨hS0, hS1, hS2, hS3, hS4, hS5⟩ := hS; go_simp⟩) hS6 ?_
 refine wpAnyH_ready (rs := [55]) (by kernel_rfl) (by simp) ?_
 refine AllReadyH.cons (o := ⟨none, Op.store 3 (Operand.tmp 75) (Operand.tmp 67), 0, _, _, none⟩) rfl (fun K hK => ?_) AllReadyH.nil
 rw [if_pos (by rfl)]
 have f_o := E6.out.blk.frozen 5
 have cl : w6.cell? ⟨ps, 5, none⟩ = some (.int .i64 { { { (layD D.room D.fs) with room := D.room } with fuse := D.fuse } with out := D.out }.acts) := E6.out.blk.c 5 rfl
 refine wp_cellS (w6.setCell ⟨ps, 5, none⟩ (.int .i64 D.acts)) (by go_simp) ?_
 clear f_o cl
 have hg9 : Grown w6 (w6.setCell ⟨ps, 5, none⟩ (.int .i64 D.acts)) fun k => k = ps := Grown.setCell w6 ps 5 _ fun _ => rfl
 have E7 : Keep (DskAt (w6.setCell ⟨ps, 5, none⟩ (.int .i64 D.acts)) ps vf2 cs2 { { { { (layD D.room D.fs) with room := D.room } with fuse := D.fuse } with out := D.out } with acts := D.acts }) := ⟨E6.out.put rfl rfl⟩
 have P7 : Keep (Blk (w6.setCell ⟨ps, 5, none⟩ (.int .i64 D.acts)) pd 75 #[ptr ps]) := ⟨hg9.blk P6.out fun e => by rw [e] at P6; have := P6.out.typ.one E6.out.blk.typ; revert this; decide⟩
 have Q7 : Keep (Blk (w6.setCell ⟨ps, 5, none⟩ (.int .i64 D.acts)) ph 77 #[ptr ps]) := ⟨hg9.blk Q6.out fun e => by rw [e] at Q6; have := Q6.out.typ.one E6.out.blk.typ; revert this; decide⟩
 have B7 : Keep (Below w.heap.size w (w6.setCell ⟨ps, 5, none⟩ (.int .i64 D.acts))) := ⟨B6.out.trans ((hg9.to_below (B := w.heap.size) (fun k hk e => by have := L2.out.1; omega) B6.out.size))⟩
 clear hg9 E6 P6 Q6 B6
 generalize (w6.setCell ⟨ps, 5, none⟩ (.int .i64 D.acts)) = w7 at *
 refine hK _ _ (HSx.out _ B7.out P7.out) fun hS7 => ?_
 clear hK
 simp only [Act.put, pqA, pqB, pqC]
 refine wpAnyH_done (by kernel_rfl) ?_ _
 refine hK3 _ _ ?_
 refine wp_seq_k fun K4 hK4 => rgn ?_
 refine VlS (.pointer (some ⟨pd, 0, none⟩)) ?_
 refine VlS (.pointer (some ⟨ph, 0, none⟩)) ?_
 refine VlS (.pointer (some ⟨pd, 0, none⟩)) ?_
 refine VlS (.pointer (some ⟨ph, 0, none⟩)) ?_
 refine WL.nil (hK4 _ _ ?_)
 refine wp_ret ?_
 go_ret2
 refine ⟨ps, pd, ph, vf2, cs2, rfl, ?_, P7.out, Q7.out, L2.out, S2.out, B7.out⟩
 have h := E7.out
 have e : layT D.fs = D.fs := by have h2 := layT_self D.fs HOk.out D.fs.length; rwa [List.take_of_length_le (Nat.le_refl _)] at h2
 simp only [layD, e] at h
 exact h
end Go.Proofs.YtennogmeeefopaaDoor
