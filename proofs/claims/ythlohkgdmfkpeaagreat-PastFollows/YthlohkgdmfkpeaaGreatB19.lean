import Derived.Test.YthlohkgdmfkpeaaGreatB18
import Derived.Test.YthlohkgdmfkpeaaGreatB17
import Derived.Test.YthlohkgdmfkpeaaGreatB04
import Derived.ProofKit
import Derived.OpenShut
import Derived.ChangeOld
import Derived.Below
import Derived.SizedLaws
import Derived.Deep.Slices
namespace Go.Proofs.YthlohkgdmfkpeaaGreat
open Go.RowKit
set_option linter.unusedSimpArgs false
set_option linter.unusedVariables false

set_option maxRecDepth 16000 in
set_option maxHeartbeats 16000000 in
theorem follows_good (v0 : Value) (L : List EP) (x0 x1 : Int) (w : World) (hs : ESl w v0 L) (hi : EIn w L) (hL : L.length ≤ 4398046511104) (hG : Good (exs L)) : Calls Tryz.prog 8 #[v0, .agg #[.int .i64 x0, .int .i64 x1]] w fun e w' => e = .returned (.bool true) ∧ Below w.heap.size w w' := by
 obtain ⟨sa, sc, rfl⟩ := hs.form
 have HS := Keep.mk hs
 have HI := Keep.mk hi
 have HL := Keep.mk hL
 obtain ⟨tv, htv⟩ : ∃ c : Array Value, Keep (c = #[.int .i64 x0, .int .i64 x1]) := ⟨_, ⟨rfl⟩⟩
 rw [← htv.out]
 have HG := Keep.mk hG
 clear hs hi hL hG
 go_enter Tryz.func8, Tryz.ntmps8
 refine wp_seq_k fun K1 hK1 => rgn ?_
 refine WL.box (by kernel_rfl) 66 (.tmp 1) rfl (tv) rfl ?_
 obtain ⟨w0, hwn⟩ : ∃ wx, Keep (wx = w.alloc (.cells (tv) 66)) := ⟨_, ⟨rfl⟩⟩
 rw [← hwn.out]
 have HT0 : Keep (Blk w0 w.heap.size 66 (tv)) := ⟨by rw [hwn.out]; exact Blk.new _ _ _⟩
 have L0 : Keep (Below w.heap.size w w0) := ⟨by rw [hwn.out]; exact below_new _ _⟩
 clear hwn
 obtain ⟨gt, hgt⟩ : ∃ g, Keep (g = w.heap.size) := ⟨_, ⟨rfl⟩⟩
 rw [← hgt.out] at HT0 ⊢
 clear hgt
 simp only [Act.put, pqA, pqB, pqC]
 refine VbF ?_
 refine WL.nil (hK1 _ _ ?_)
 refine wp_seq_k fun K2 hK2 => ?_
 refine wp_seq_k fun K3 hK3 => rgn ?_
 refine WL.callF (by kernel_rfl) 9 _ _ rfl Tryz.in9 #[] (by simp) ?_
 refine (awake_any w0).mono ?_
 rintro e w1 ⟨rfl, hb⟩
 refine ⟨_, rfl, ?_⟩
 have B1 := Keep.mk (belowC L0.out hb)
 have HT1 := Keep.mk (HT0.out.below hb HT0.out.lt)
 clear hb HT0
 simp only [Act.put, pqA, pqB, pqC]
 refine VbF ?_
 refine WL.nil (hK3 _ _ ?_)
 refine wp_cond_false rfl ?_
 refine wp_skip ?_
 refine hK2 _ _ ?_
 refine wp_seq_k fun K4 hK4 => rgn ?_
 refine VlS (.slice sa L.length sc) ?_
 refine WL.callF (by kernel_rfl) 10 _ _ rfl Tryz.in10 #[.slice sa L.length sc] (by simp [Act.eval]) ?_
 refine (of_any _ L w1 (HS.out.below B1.out) (HI.out.below B1.out) HL.out).mono ?_
 rintro e w2 (⟨p, H, S, rfl, hP⟩ | ⟨-, i, hi, -, hne, -⟩ | ⟨-, -, i, hi, -, hne, -⟩)
 rotate_left
 ·exact absurd (HG.out.al i (by rw [exs_len]; exact hi)) hne
 ·exact absurd (HG.out.tg i (by rw [exs_len]; exact hi)) hne
 refine ⟨_, rfl, ?_⟩
 have B2 : Keep (Below w.heap.size w w2) := ⟨belowC B1.out hP.bel⟩
 have HT2 := Keep.mk (HT1.out.below hP.bel HT1.out.lt)
 have c0 : w2.cell? ⟨gt, 0, none⟩ = some (.int .i64 x0) := by have h := HT2.out; rw [htv.out] at h; exact h.c 0 rfl
 have c1 : w2.cell? ⟨gt, 1, none⟩ = some (.int .i64 x1) := by have h := HT2.out; rw [htv.out] at h; exact h.c 1 rfl
 have HMm := Keep.mk hP.mem
 obtain ⟨v, mb, ub, hHis⟩ := his_of hP
 have HP := Keep.mk hHis
 clear hP hHis HT1
 simp only [Act.put, pqA, pqB, pqC]
 refine VlS (.tuple #[.pointer (some ⟨p, 0, none⟩), .int .i64 0, .int .i64 0]) ?_
 refine VlS (.pointer (some ⟨p, 0, none⟩)) ?_
 refine VlS (.int .i64 0) ?_
 refine VlS (.int .i64 0) ?_
 refine VlS (.pointer (some ⟨p, 0, none⟩)) ?_
 refine VlS (.int .i64 0) ?_
 refine VlS (.int .i64 0) ?_
 refine WL.nil (hK4 _ _ ?_)
 refine wp_seq_k fun K5 hK5 => ?_
 refine wp_seq_k fun K6 hK6 => rgn ?_
 refine VlS (.int .i64 0) ?_
 refine VbF ?_
 refine VbF ?_
 refine VlS (.pointer (some ⟨p, 0, none⟩)) ?_
 refine VbF ?_
 refine VbF ?_
 refine WL.nil (hK6 _ _ ?_)
 refine wp_cond_false rfl ?_
 refine wp_skip ?_
 refine hK5 _ _ ?_
 refine wp_seq_k fun K7 hK7 => ?_
 refine wp_seq_k fun K8 hK8 => rgn ?_
 refine VlS (.pointer (some ⟨gt, 0, none⟩)) ?_
 refine VlS (.int .i64 x0) ?_
 by_cases h6_2 : x0 < 0
 ·skip
  refine VbT ?_
  refine VbT ?_
  refine SkS ?_
  refine SkS ?_
  refine SkS ?_
  refine SkS ?_
  refine SkS ?_
  refine VbT ?_
  refine VbT ?_
  refine SkS ?_
  refine SkS ?_
  refine SkS ?_
  refine VbT ?_
  refine VbT ?_
  refine SkS ?_
  refine SkS ?_
  refine SkS ?_
  refine SkS ?_
  refine SkS ?_
  refine VbT ?_
  refine WL.nil (hK8 _ _ ?_)
  refine wp_cond_true rfl ?_
  refine wp_seq_k fun K9 hK9 => rgn ?_
  refine VbT ?_
  refine WL.nil (hK9 _ _ ?_)
  refine wp_ret ?_
  go_ret
  exact ⟨rfl, B2.out⟩
 ·skip
  refine VbF ?_
  refine VbF ?_
  refine VlS (.pointer (some ⟨gt, 0, none⟩)) ?_
  refine VlS (.int .i64 x0) ?_
  refine VlS (.slice sa L.length sc) ?_
  refine VlS (.int .i64 (L.length : Int)) ?_
  by_cases h6_8 : (L.length : Int) ≤ x0
  ·skip
   refine VbT ?_
   refine VbT ?_
   refine VbT ?_
   refine SkS ?_
   refine SkS ?_
   refine SkS ?_
   refine VbT ?_
   refine VbT ?_
   refine SkS ?_
   refine SkS ?_
   refine SkS ?_
   refine SkS ?_
   refine SkS ?_
   refine VbT ?_
   refine WL.nil (hK8 _ _ ?_)
   refine wp_cond_true rfl ?_
   refine wp_seq_k fun K10 hK10 => rgn ?_
   refine VbT ?_
   refine WL.nil (hK10 _ _ ?_)
   refine wp_ret ?_
   go_ret
   exact ⟨rfl, B2.out⟩
  ·skip
   refine VbF ?_
   refine VbF ?_
   refine VbF ?_
   refine VlS (.pointer (some ⟨gt, 1, none⟩)) ?_
   refine VlS (.int .i64 x1) ?_
   by_cases h6_13 : x1 < 0
   ·skip
    refine VbT ?_
    refine VbT ?_
    refine VbT ?_
    refine SkS ?_
    refine SkS ?_
    refine SkS ?_
    refine SkS ?_
    refine SkS ?_
    refine VbT ?_
    refine WL.nil (hK8 _ _ ?_)
    refine wp_cond_true rfl ?_
    refine wp_seq_k fun K11 hK11 => rgn ?_
    refine VbT ?_
    refine WL.nil (hK11 _ _ ?_)
    refine wp_ret ?_
    go_ret
    exact ⟨rfl, B2.out⟩
   ·skip
    refine VbF ?_
    refine VbF ?_
    refine VbF ?_
    refine VlS (.pointer (some ⟨gt, 1, none⟩)) ?_
    refine VlS (.int .i64 x1) ?_
    refine VlS (.slice sa L.length sc) ?_
    refine VlS (.int .i64 (L.length : Int)) ?_
    by_cases h6_20 : (L.length : Int) ≤ x1
    ·skip
     refine VbT ?_
     refine VbT ?_
     refine WL.nil (hK8 _ _ ?_)
     refine wp_cond_true rfl ?_
     refine wp_seq_k fun K12 hK12 => rgn ?_
     refine VbT ?_
     refine WL.nil (hK12 _ _ ?_)
     refine wp_ret ?_
     go_ret
     exact ⟨rfl, B2.out⟩
    ·skip
     refine VbF ?_
     refine VbF ?_
     refine WL.nil (hK8 _ _ ?_)
     refine wp_cond_false rfl ?_
     refine wp_skip ?_
     refine hK7 _ _ ?_
     refine wp_seq_k fun K13 hK13 => ?_
     obtain ⟨k0, hk0⟩ : ∃ k : Nat, x0 = (k : Int) := ⟨x0.toNat, by omega⟩
     obtain ⟨k1, hk1⟩ : ∃ k : Nat, x1 = (k : Int) := ⟨x1.toNat, by omega⟩
     subst hk0 hk1
     have hk0l : k0 < L.length := by omega
     have hk1l : k1 < L.length := by omega
     have hk0' : (k0 : Int) < (L.length : Int) := by omega
     have hk1' : (k1 : Int) < (L.length : Int) := by omega
     have hz0 : (0 : Int) ≤ (k0 : Int) := by omega
     have hz1 : (0 : Int) ≤ (k1 : Int) := by omega
     obtain ⟨sb, so, hsa, hr0⟩ := esl_range (HS.out.below B2.out) hk0l
     have hq1 := esl_range (HS.out.below B2.out) hk1l
     subst hsa
     obtain ⟨sb', so', hsa', hr1⟩ := hq1
     injection hsa' with hsa'
     injection hsa' with e1 e2
     subst e1 e2
     obtain ⟨a, ha⟩ : ∃ h : Hs, Keep (h = L[k0].1.id) := ⟨_, ⟨rfl⟩⟩
     obtain ⟨b, hb⟩ : ∃ h : Hs, Keep (h = L[k1].1.id) := ⟨_, ⟨rfl⟩⟩
     obtain ⟨ea, hea⟩ : ∃ c : Array Value, Keep (c = bytesA 32 a.f) := ⟨_, ⟨rfl⟩⟩
     obtain ⟨eb, heb⟩ : ∃ c : Array Value, Keep (c = bytesA 32 b.f) := ⟨_, ⟨rfl⟩⟩
     obtain ⟨ez, hez⟩ : ∃ c : Array Value, Keep (c = bytesA 32 fun _ => 0) := ⟨_, ⟨rfl⟩⟩
     have HR0 : Keep (w2.rangeAt sb (so + k0 * 36) ea.toList) := ⟨by rw [hea.out, ha.out]; exact ent_range_id hr0⟩
     have HR1 : Keep (w2.rangeAt sb (so + k1 * 36) eb.toList) := ⟨by rw [heb.out, hb.out]; exact ent_range_id hr1⟩
     have hsl : Keep (sb < w2.heap.size) := ⟨by
      obtain ⟨b', off', e', _, h3⟩ := (HS.out.below B2.out).at (by omega)
      cases e'
      exact flatE_lt h3 (by omega)⟩
     have Ha : Keep (a ∈ idsE (exs H)) := ⟨(HMm.out a).2 (by rw [ha.out]; exact List.mem_map.2 ⟨L[k0].1, List.mem_map.2 ⟨L[k0], List.getElem_mem hk0l, rfl⟩, rfl⟩)⟩
     have Hb : Keep (b ∈ idsE (exs H)) := ⟨(HMm.out b).2 (by rw [hb.out]; exact List.mem_map.2 ⟨L[k1].1, List.mem_map.2 ⟨L[k1], List.getElem_mem hk1l, rfl⟩, rfl⟩)⟩
     clear hr0 hr1
     have hSS : Keep (∀ wz, Below w2.heap.size w2 wz → (fun wz => wz.cell? ⟨gt, 0, none⟩ = some (.int .i64 (k0 : Int)) ∧ wz.cell? ⟨gt, 1, none⟩ = some (.int .i64 (k1 : Int)) ∧ wz.rangeAt sb (so + k0 * 36) ea.toList ∧ wz.rangeAt sb (so + k1 * 36) eb.toList) wz) := ⟨fun wz hb => ⟨(by have h := HT2.out.below hb HT2.out.lt; rw [htv.out] at h; exact h.c 0 rfl), (by have h := HT2.out.below hb HT2.out.lt; rw [htv.out] at h; exact h.c 1 rfl), range_below HR0.out hb hsl.out, range_below HR1.out hb hsl.out⟩⟩
     have hD0 : Keep (Below w2.heap.size w2 w2.drew) := ⟨(Below.refl _ _).drew⟩
     clear c0 c1
     have rest8 : ∀ (ga gb : Nat) (wS : World), Blk wS ga 36 ea → Blk wS gb 36 eb → Below w2.heap.size w2 wS → K13 { tmps := #[.slice (some ⟨sb, so, none⟩) L.length sc, .agg tv, undef, .pointer (some ⟨gt, 0, none⟩), .bool false, .pointer (some ⟨p, 0, none⟩), .int .i64 0, .int .i64 0, .pointer (some ⟨ga, 0, none⟩), .pointer (some ⟨gb, 0, none⟩), undef, undef, undef, undef, undef, undef, undef, undef, undef, undef, undef, .bool true, .bool false, .tuple #[.pointer (some ⟨p, 0, none⟩), .int .i64 0, .int .i64 0], .slice (some ⟨sb, so, none⟩) L.length sc, .tuple #[.pointer (some ⟨p, 0, none⟩), .int .i64 0, .int .i64 0], .pointer (some ⟨p, 0, none⟩), .int .i64 0, .int .i64 0, .int .i64 0, .bool false, .bool false, .pointer (some ⟨p, 0, none⟩), .bool false, .bool false, undef, undef, undef, undef, undef, undef, .pointer (some ⟨gt, 0, none⟩), .int .i64 (k0 : Int), .bool false, .bool false, .pointer (some ⟨gt, 0, none⟩), .int .i64 (k0 : Int), .slice (some ⟨sb, so, none⟩) L.length sc, .int .i64 (L.length : Int), .bool false, .bool false, .bool false, .pointer (some ⟨gt, 1, none⟩), .int .i64 (k1 : Int), .bool false, .bool false, .bool false, .pointer (some ⟨gt, 1, none⟩), .int .i64 (k1 : Int), .slice (some ⟨sb, so, none⟩) L.length sc, .int .i64 (L.length : Int), .bool false, .bool false, .slice (some ⟨sb, so, none⟩) L.length sc, .pointer (some ⟨gt, 0, none⟩), .int .i64 (k0 : Int), .pointer (some ⟨sb, so + k0 * 36, none⟩), .pointer (some ⟨sb, so + k0 * 36, none⟩), .agg ea, .slice (some ⟨sb, so, none⟩) L.length sc, .pointer (some ⟨gt, 1, none⟩), .int .i64 (k1 : Int), .pointer (some ⟨sb, so + k1 * 36, none⟩), .pointer (some ⟨sb, so + k1 * 36, none⟩), .agg eb, undef, undef, undef, undef, undef, undef, undef, undef, undef, undef, undef, undef, undef, undef, undef, undef, undef, undef, undef, undef, undef, undef, undef, undef, undef, undef, undef, undef, undef, undef, undef, undef, undef, undef, undef, undef, undef, undef, undef, undef, undef, undef, undef, undef, undef, undef, undef, undef, undef, undef, undef, undef, undef, undef, undef, undef, undef, undef, undef, undef, undef, undef, undef, undef, undef, undef, undef, undef, undef, undef, undef, undef, undef, undef, undef, undef, undef, undef, undef, undef, undef, undef, undef, undef, undef, undef, undef, undef, undef, undef, undef, undef, undef, undef, undef, undef, undef, undef, undef, undef, undef, undef, undef, undef, undef, undef, undef, undef, undef, undef, undef, undef, undef, undef, undef, undef, undef, undef, undef, undef], defers := [] } wS := by
      intro ga gb wS hSa hSb hD4
      have HSa := Keep.mk hSa
      have HSb := Keep.mk hSb
      have D4 := Keep.mk hD4
      clear hSa hSb hD4 hSS HR0 HR1 hsl hD0 hez ha hb hk0l hk1l hk0' hk1' hz0 hz1
      refine hK13 _ _ ?_
      refine wp_seq_k fun K14 hK14 => ?_
      obtain ⟨i, hi⟩ : ∃ i, Keep (ixH (idsE (exs H)) a = i) := ⟨_, ⟨rfl⟩⟩
      obtain ⟨j, hj⟩ : ∃ j, Keep (ixH (idsE (exs H)) b = j) := ⟨_, ⟨rfl⟩⟩
      have hil : i < H.length := by have h := ix_lt Ha.out; rw [exs_len, hi.out] at h; exact h
      have hjl : j < H.length := by have h := ix_lt Hb.out; rw [exs_len, hj.out] at h; exact h
      have hni : Keep (numV (idsE (exs H)) a = (i : Int)) := ⟨num_of hi.out (by rw [idsE_len, exs_len]; exact hil)⟩
      have hnj : Keep (numV (idsE (exs H)) b = (j : Int)) := ⟨num_of hj.out (by rw [idsE_len, exs_len]; exact hjl)⟩
      have hSS : Keep (∀ wz, Below wS.heap.size wS wz → (fun wz => wz.rangeAt ga 0 ea.toList ∧ wz.rangeAt gb 0 eb.toList) wz) := ⟨fun wz hb => ⟨range_below (blk_range HSa.out) hb HSa.out.lt, range_below (blk_range HSb.out) hb HSb.out.lt⟩⟩
      have hE0 : Keep (Below wS.heap.size wS wS.drew) := ⟨(Below.refl _ _).drew⟩
      refine wp_region_held_drew (S := fun wz => wz.rangeAt ga 0 ea.toList ∧ wz.rangeAt gb 0 eb.toList) (by kernel_rfl) (hSS.out _ hE0.out) (fun hHeld => ?_)
      refine TkC (i := 0) (oi := ⟨some 75, Op.move (Operand.tmp 5), 25, _, _, none⟩) (v := .pointer (some ⟨p, 0, none⟩)) rfl hHeld ?_
      refine tkS (i := 1) (oi := ⟨some 76, Op.load 36 (Operand.tmp 8), 36, _, _, none⟩) (v := .agg ea) rfl (yieldsIf_ld (by rfl) (Operand.tmp 8) 36 rfl ga 0 rfl ea _ Tryz.underlying36 rfl (by rw [hea.out]; exact size36E _) fun w hS => hS.1) hHeld ?_
      refine TkC (i := 3) (oi := ⟨some 78, Op.move (Operand.tmp 5), 25, _, _, none⟩) (v := .pointer (some ⟨p, 0, none⟩)) rfl hHeld ?_
      refine tkS (i := 4) (oi := ⟨some 79, Op.load 36 (Operand.tmp 9), 36, _, _, none⟩) (v := .agg eb) rfl (yieldsIf_ld (by rfl) (Operand.tmp 9) 36 rfl gb 0 rfl eb _ Tryz.underlying36 rfl (by rw [heb.out]; exact size36E _) fun w hS => hS.2) hHeld ?_
      refine wpAnyH_ready (rs := [2]) (by kernel_rfl) (by simp) ?_
      refine AllReadyH.cons (o := ⟨some 77, Op.call { callee := Callee.value (Operand.func 13), args := #[Operand.tmp 75, Operand.tmp 76], argTypes := #[25, 36] }, 3, _, _, none⟩) rfl (fun K hK => ?_) AllReadyH.nil
      rw [if_pos (by rfl)]
      refine wp_callF 13 _ _ rfl Tryz.in13 #[.pointer (some ⟨p, 0, none⟩), .agg ea] (by simp [Act.eval]) (fun uu w' => uu = .int .i64 (i : Int) ∧ Below wS.drew.heap.size wS.drew w') ((by have h := number_any H S v p mb ub wS.drew (HP.out.rd.below (belowC D4.out hE0.out)) a; rw [← hea.out] at h; exact h : Calls Tryz.prog 13 #[.pointer (some ⟨p, 0, none⟩), .agg ea] wS.drew fun e w' => e = .returned (.int .i64 (numV (idsE (exs H)) a)) ∧ Below wS.drew.heap.size wS.drew w').mono fun e w' h => ⟨_, h.1, by rw [hni.out], h.2⟩) ?_
      rintro _ w3 ⟨rfl, hbt⟩
      have hE1 : Keep (Below wS.heap.size wS w3) := ⟨belowC hE0.out hbt⟩
      refine hK _ _ (hSS.out _ hE1.out) fun hQ1 => ?_
      clear hK hbt
      simp only [Act.put, pqA, pqB, pqC]
      refine wpAnyH_ready (rs := [5]) (by kernel_rfl) (by simp) ?_
      refine AllReadyH.cons (o := ⟨some 80, Op.call { callee := Callee.value (Operand.func 13), args := #[Operand.tmp 78, Operand.tmp 79], argTypes := #[25, 36] }, 3, _, _, none⟩) rfl (fun K hK => ?_) AllReadyH.nil
      rw [if_pos (by rfl)]
      refine wp_callF 13 _ _ rfl Tryz.in13 #[.pointer (some ⟨p, 0, none⟩), .agg eb] (by simp [Act.eval]) (fun uu w' => uu = .int .i64 (j : Int) ∧ Below w3.heap.size w3 w') ((by have h := number_any H S v p mb ub w3 (HP.out.rd.below (belowC D4.out hE1.out)) b; rw [← heb.out] at h; exact h : Calls Tryz.prog 13 #[.pointer (some ⟨p, 0, none⟩), .agg eb] w3 fun e w' => e = .returned (.int .i64 (numV (idsE (exs H)) b)) ∧ Below w3.heap.size w3 w').mono fun e w' h => ⟨_, h.1, by rw [hnj.out], h.2⟩) ?_
      rintro _ w4 ⟨rfl, hbt⟩
      have hE2 : Keep (Below wS.heap.size wS w4) := ⟨belowC hE1.out hbt⟩
      refine hK _ _ (hSS.out _ hE2.out) fun hQ2 => ?_
      clear hK hbt
      simp only [Act.put, pqA, pqB, pqC]
      refine TkC (i := 6) (oi := ⟨some 10, Op.assign (Operand.tmp 77), 3, _, _, none⟩) (v := .int .i64 (i : Int)) rfl hQ2 ?_
      refine TkC (i := 7) (oi := ⟨some 11, Op.assign (Operand.tmp 80), 3, _, _, none⟩) (v := .int .i64 (j : Int)) rfl hQ2 ?_
      refine wpAnyH_done (by kernel_rfl) ?_ _
      refine hK14 _ _ ?_
      refine wp_seq_k fun K15 hK15 => rgn ?_
      refine VlS (.pointer (some ⟨p, 0, none⟩)) ?_
      refine WL.row (by kernel_rfl) 36 (.tmp 8) rfl ga rfl 36 ea _ (HSa.out.below hE2.out HSa.out.lt) Tryz.underlying36 rfl (by rw [hea.out]; exact size36E _) ?_
      simp only [Act.put, pqA, pqB, pqC]
      refine WL.row (by kernel_rfl) 36 (.tmp 9) rfl gb rfl 36 eb _ (HSb.out.below hE2.out HSb.out.lt) Tryz.underlying36 rfl (by rw [heb.out]; exact size36E _) ?_
      simp only [Act.put, pqA, pqB, pqC]
      refine WL.callF (by kernel_rfl) 27 _ _ rfl Tryz.in27 #[.pointer (some ⟨p, 0, none⟩), .agg ea, .agg eb] (by simp [Act.eval]) ?_
      refine ((by have h := his_common (HP.out.below (belowC D4.out hE2.out)) a b Ha.out Hb.out; rw [← hea.out, ← heb.out] at h; exact h : Calls Tryz.prog 27 #[.pointer (some ⟨p, 0, none⟩), .agg ea, .agg eb] w4 _)).mono ?_
      rintro e w5 ⟨v5, C, rfl, h1, h2, h3, h4⟩
      refine ⟨_, rfl, ?_⟩
      obtain ⟨ca, cc, hv5⟩ := h1.sl
      subst hv5
      have O5 := Keep.mk h1
      have P5 := Keep.mk h2
      have M5 := Keep.mk h3
      have E5 := Keep.mk (belowC hE2.out h4)
      clear h1 h2 h3 h4
      simp only [Act.put, pqA, pqB, pqC]
      refine VlS (.tuple #[.slice ca C.length cc, .int .i64 0]) ?_
      refine VlS (.slice ca C.length cc) ?_
      refine VlS (.int .i64 0) ?_
      refine VlS (.slice ca C.length cc) ?_
      refine VlS (.int .i64 0) ?_
      refine WL.nil (hK15 _ _ ?_)
      refine wp_seq_k fun K16 hK16 => rgn ?_
      refine VlS (.pointer (some ⟨p, 0, none⟩)) ?_
      refine WL.row (by kernel_rfl) 36 (.tmp 9) rfl gb rfl 36 eb _ (HSb.out.below E5.out HSb.out.lt) Tryz.underlying36 rfl (by rw [heb.out]; exact size36E _) ?_
      simp only [Act.put, pqA, pqB, pqC]
      refine WL.row (by kernel_rfl) 36 (.tmp 8) rfl ga rfl 36 ea _ (HSa.out.below E5.out HSa.out.lt) Tryz.underlying36 rfl (by rw [hea.out]; exact size36E _) ?_
      simp only [Act.put, pqA, pqB, pqC]
      refine WL.callF (by kernel_rfl) 27 _ _ rfl Tryz.in27 #[.pointer (some ⟨p, 0, none⟩), .agg eb, .agg ea] (by simp [Act.eval]) ?_
      refine ((by have h := his_common (HP.out.below (belowC D4.out E5.out)) b a Hb.out Ha.out; rw [← hea.out, ← heb.out] at h; exact h : Calls Tryz.prog 27 #[.pointer (some ⟨p, 0, none⟩), .agg eb, .agg ea] w5 _)).mono ?_
      rintro e w6 ⟨v6, C', rfl, h1, h2, h3, h4⟩
      refine ⟨_, rfl, ?_⟩
      have hCC : C = C' := lt_ext C C' P5.out h2 fun y => by rw [M5.out y, h3 y, comAt_comm HP.out.hst Ha.out Hb.out]
      subst hCC
      have O6 := Keep.mk (O5.out.below h4)
      have Q6 := Keep.mk h1
      have E6 := Keep.mk (belowC E5.out h4)
      have HCm : Keep (∀ g ∈ C, g ∈ idsE (exs H) ∧ ixH (idsE (exs H)) g ∈ ComAt H S a b) := ⟨fun g hg => com_at HP.out.hst Ha.out Hb.out M5.out hg⟩
      have HCl : Keep (C.length ≤ 4096) := ⟨by have h7 := lt_len (X := exs H) P5.out (fun g hg => (HCm.out g hg).1); rw [exs_len] at h7; have := HP.out.rd.n; omega⟩
      clear h1 h2 h3 h4
      simp only [Act.put, pqA, pqB, pqC]
      refine VlS (.tuple #[v6, .int .i64 0]) ?_
      refine VlS (v6) ?_
      refine VlS (.int .i64 0) ?_
      refine VlS (v6) ?_
      refine VlS (.int .i64 0) ?_
      refine WL.nil (hK16 _ _ ?_)
      refine wp_seq_k fun K17 hK17 => ?_
      refine wp_seq_k fun K18 hK18 => rgn ?_
      refine VlS (.int .i64 (i : Int)) ?_
      refine VbF ?_
      refine VbF ?_
      refine VlS (.int .i64 (j : Int)) ?_
      refine VbF ?_
      refine VbF ?_
      refine VbF ?_
      refine VlS (.int .i64 0) ?_
      refine VbF ?_
      refine VbF ?_
      refine VbF ?_
      refine VlS (.int .i64 0) ?_
      refine VbF ?_
      refine VbF ?_
      refine VbF ?_
      refine VlS (.slice ca C.length cc) ?_
      refine VlS (v6) ?_
      refine WL.callF (by kernel_rfl) 28 _ _ rfl Tryz.in28 #[.slice ca C.length cc, v6] (by simp [Act.eval]) ?_
      refine (sameH_any _ v6 C w6 O6.out.row Q6.out.row (by have := HCl.out; omega)).mono ?_
      rintro e w7 ⟨rfl, hb⟩
      refine ⟨_, rfl, ?_⟩
      have O7 := Keep.mk (O6.out.below hb)
      have E7 := Keep.mk (belowC E6.out hb)
      clear hb Q6 O5
      simp only [Act.put, pqA, pqB, pqC]
      refine VbF ?_
      refine VbF ?_
      refine VbF ?_
      refine VlS (.slice ca C.length cc) ?_
      refine WL.callF (by kernel_rfl) 29 _ _ rfl Tryz.in29 #[.slice ca C.length cc] (by simp [Act.eval]) ?_
      refine (rising_law _ C w7 O7.out.row P5.out (by have := HCl.out; omega)).mono ?_
      rintro e w8 ⟨rfl, hb⟩
      refine ⟨_, rfl, ?_⟩
      have O8 := Keep.mk (O7.out.below hb)
      have E8 := Keep.mk (belowC E7.out hb)
      clear hb O7 O6
      simp only [Act.put, pqA, pqB, pqC]
      refine VbF ?_
      refine VbF ?_
      refine WL.nil (hK18 _ _ ?_)
      refine wp_cond_false rfl ?_
      refine wp_skip ?_
      refine hK17 _ _ ?_
      exact fol_mid B2 HP hea heb Ha Hb HSa HSb D4 hi hj hil hjl P5 M5 HCm HCl O8 E8
     refine wp_region_held_drew (S := fun wz => wz.cell? ⟨gt, 0, none⟩ = some (.int .i64 (k0 : Int)) ∧ wz.cell? ⟨gt, 1, none⟩ = some (.int .i64 (k1 : Int)) ∧ wz.rangeAt sb (so + k0 * 36) ea.toList ∧ wz.rangeAt sb (so + k1 * 36) eb.toList) (by kernel_rfl) (hSS.out _ hD0.out) (fun hHeld => ?_)
     refine tkS (i := 0) (oi := ⟨some 63, Op.move (Operand.tmp 0), 23, _, _, none⟩) (v := .slice (some ⟨sb, so, none⟩) L.length sc) rfl (Or.inl ⟨by rfl, fun w hS => by obtain ⟨c0, c1, -, -⟩ := hS; go_simp⟩) hHeld ?_
     refine tkS (i := 1) (oi := ⟨some 64, Op.indexAddr 66 (Operand.tmp 3) (Operand.const (Value.int IntKind.i64 0)), 0, _, _, none⟩) (v := .pointer (some ⟨gt, 0, none⟩)) rfl (Or.inl ⟨by rfl, fun w hS => by obtain ⟨c0, c1, -, -⟩ := hS; go_simp⟩) hHeld ?_
     refine tkS (i := 2) (oi := ⟨some 65, Op.load 3 (Operand.tmp 64), 3, _, _, none⟩) (v := .int .i64 (k0 : Int)) rfl (Or.inl ⟨by rfl, fun w hS => by obtain ⟨c0, c1, -, -⟩ := hS; go_simp⟩) hHeld ?_
     refine tkS (i := 3) (oi := ⟨some 66, Op.indexAddr 23 (Operand.tmp 63) (Operand.tmp 65), 0, _, _, none⟩) (v := .pointer (some ⟨sb, so + k0 * 36, none⟩)) rfl (Or.inl ⟨by rfl, fun w hS => by obtain ⟨c0, c1, -, -⟩ := hS; go_simp⟩) hHeld ?_
     refine tkS (i := 4) (oi := ⟨some 67, Op.fieldAddr 52 (Operand.tmp 66) 0, 0, _, _, none⟩) (v := .pointer (some ⟨sb, so + k0 * 36, none⟩)) rfl (Or.inl ⟨by rfl, fun w hS => by obtain ⟨c0, c1, -, -⟩ := hS; go_simp⟩) hHeld ?_
     refine tkS (i := 5) (oi := ⟨some 68, Op.load 36 (Operand.tmp 67), 36, _, _, none⟩) (v := .agg ea) rfl (yieldsIf_ld (by rfl) (Operand.tmp 67) 36 rfl sb (so + k0 * 36) rfl ea _ Tryz.underlying36 rfl (by rw [hea.out]; exact size36E _) fun w hS => hS.2.2.1) hHeld ?_
     refine tkS (i := 6) (oi := ⟨some 69, Op.move (Operand.tmp 0), 23, _, _, none⟩) (v := .slice (some ⟨sb, so, none⟩) L.length sc) rfl (Or.inl ⟨by rfl, fun w hS => by obtain ⟨c0, c1, -, -⟩ := hS; go_simp⟩) hHeld ?_
     refine tkS (i := 7) (oi := ⟨some 70, Op.indexAddr 66 (Operand.tmp 3) (Operand.const (Value.int IntKind.i64 1)), 0, _, _, none⟩) (v := .pointer (some ⟨gt, 1, none⟩)) rfl (Or.inl ⟨by rfl, fun w hS => by obtain ⟨c0, c1, -, -⟩ := hS; go_simp⟩) hHeld ?_
     refine tkS (i := 8) (oi := ⟨some 71, Op.load 3 (Operand.tmp 70), 3, _, _, none⟩) (v := .int .i64 (k1 : Int)) rfl (Or.inl ⟨by rfl, fun w hS => by obtain ⟨c0, c1, -, -⟩ := hS; go_simp⟩) hHeld ?_
     refine tkS (i := 9) (oi := ⟨some 72, Op.indexAddr 23 (Operand.tmp 69) (Operand.tmp 71), 0, _, _, none⟩) (v := .pointer (some ⟨sb, so + k1 * 36, none⟩)) rfl (Or.inl ⟨by rfl, fun w hS => by obtain ⟨c0, c1, -, -⟩ := hS; go_simp⟩) hHeld ?_
     refine tkS (i := 10) (oi := ⟨some 73, Op.fieldAddr 52 (Operand.tmp 72) 0, 0, _, _, none⟩) (v := .pointer (some ⟨sb, so + k1 * 36, none⟩)) rfl (Or.inl ⟨by rfl, fun w hS => by obtain ⟨c0, c1, -, -⟩ := hS; go_simp⟩) hHeld ?_
     refine tkS (i := 11) (oi := ⟨some 74, Op.load 36 (Operand.tmp 73), 36, _, _, none⟩) (v := .agg eb) rfl (yieldsIf_ld (by rfl) (Operand.tmp 73) 36 rfl sb (so + k1 * 36) rfl eb _ Tryz.underlying36 rfl (by rw [heb.out]; exact size36E _) fun w hS => hS.2.2.2) hHeld ?_
     refine wpAnyH_ready (rs := [12, 13]) (by kernel_rfl) (by simp) ?_
     refine AllReadyH.cons (o := ⟨some 8, Op.alloc 36, 0, _, _, none⟩) rfl (fun K hK => ?_) (AllReadyH.cons (o := ⟨some 9, Op.alloc 36, 0, _, _, none⟩) rfl (fun K hK => ?_) AllReadyH.nil)
     all_goals rw [if_pos (by rfl)]
     ·refine wp_newA 36 rfl ez (fun wzz => by rw [hez.out]; exact Tryz.new36 wzz) ?_
      obtain ⟨ga, hga⟩ : ∃ b, Keep (b = w2.drew.heap.size) := ⟨_, ⟨rfl⟩⟩
      obtain ⟨wA, hw1⟩ : ∃ wx, Keep (wx = w2.drew.alloc (.cells ez 36)) := ⟨_, ⟨rfl⟩⟩
      rw [← hga.out, ← hw1.out]
      have HZga : Keep (Blk wA ga 36 ez) := ⟨by rw [hga.out, hw1.out]; exact Blk.new _ _ _⟩
      have BN1 : Keep (Below w2.drew.heap.size w2.drew wA) := ⟨by rw [hw1.out]; exact below_new _ _⟩
      have D1 : Keep (Below w2.heap.size w2 wA) := ⟨belowC hD0.out BN1.out⟩
      refine hK _ _ (hSS.out _ D1.out) fun hH1 => ?_
      clear hK hw1
      simp only [Act.put, pqA, pqB, pqC]
      refine wpAnyH_ready (rs := [13]) (by kernel_rfl) (by simp) ?_
      refine AllReadyH.cons (o := ⟨some 9, Op.alloc 36, 0, _, _, none⟩) rfl (fun K hK => ?_) AllReadyH.nil
      rw [if_pos (by rfl)]
      refine wp_newA 36 rfl ez (fun wzz => by rw [hez.out]; exact Tryz.new36 wzz) ?_
      obtain ⟨gb, hgb⟩ : ∃ b, Keep (b = wA.heap.size) := ⟨_, ⟨rfl⟩⟩
      obtain ⟨wB, hw2⟩ : ∃ wx, Keep (wx = wA.alloc (.cells ez 36)) := ⟨_, ⟨rfl⟩⟩
      rw [← hgb.out, ← hw2.out]
      have HZgb : Keep (Blk wB gb 36 ez) := ⟨by rw [hgb.out, hw2.out]; exact Blk.new _ _ _⟩
      have BN2 : Keep (Below wA.heap.size wA wB) := ⟨by rw [hw2.out]; exact below_new _ _⟩
      have D2 : Keep (Below w2.heap.size w2 wB) := ⟨belowC D1.out BN2.out⟩
      refine hK _ _ (hSS.out _ D2.out) fun hH2 => ?_
      clear hK hw2
      have HXga : Keep (Blk wB ga 36 ez) := ⟨HZga.out.below BN2.out HZga.out.lt⟩
      have HXgb := HZgb
      have hne : Keep (ga ≠ gb) := ⟨fun e => by have h1 := HZga.out.lt; have h2 := hgb.out; omega⟩
      have hlo : Keep (w2.heap.size ≤ ga ∧ w2.heap.size ≤ gb) := ⟨by have h1 := hga.out; have h2 := hgb.out; have h3 := BN1.out.size; have h4 := hD0.out.size; omega⟩
      clear HZga HZgb hga hgb BN1 BN2 D1
      simp only [Act.put, pqA, pqB, pqC]
      refine wpAnyH_ready (rs := [14]) (by kernel_rfl) (by simp) ?_
      refine AllReadyH.cons (o := ⟨none, Op.store 36 (Operand.tmp 8) (Operand.tmp 68), 0, _, _, none⟩) rfl (fun K hK => ?_) AllReadyH.nil
      rw [if_pos (by rfl)]
      refine wp_store_row 36 (Operand.tmp 8) (Operand.tmp 68) rfl ga ea rfl rfl 36 ez HXga.out (by rw [hea.out]; exact size36E _) (by rw [hea.out, hez.out, bytesA_size, bytesA_size]) (by rw [hea.out]; exact bytesA_one _ _) ?_
      have HYa := Keep.mk (HXga.out.setRow ea)
      have HYb := Keep.mk (Nd.Blk.setRow_ne HXgb.out hne.out.symm ea)
      have D3 : Keep (Below w2.heap.size w2 (wB.setRow ga ea)) := ⟨below_setRow D2.out hlo.out.1 _⟩
      generalize wB.setRow ga ea = wC at *
      refine hK _ _ (hSS.out _ D3.out) fun hH3 => ?_
      clear hK HXga HXgb D2
      simp only [Act.put, pqA, pqB, pqC]
      refine wpAnyH_ready (rs := [15]) (by kernel_rfl) (by simp) ?_
      refine AllReadyH.cons (o := ⟨none, Op.store 36 (Operand.tmp 9) (Operand.tmp 74), 0, _, _, none⟩) rfl (fun K hK => ?_) AllReadyH.nil
      rw [if_pos (by rfl)]
      refine wp_store_row 36 (Operand.tmp 9) (Operand.tmp 74) rfl gb eb rfl rfl 36 ez HYb.out (by rw [heb.out]; exact size36E _) (by rw [heb.out, hez.out, bytesA_size, bytesA_size]) (by rw [heb.out]; exact bytesA_one _ _) ?_
      have HSb := Keep.mk (HYb.out.setRow eb)
      have HSa := Keep.mk (Nd.Blk.setRow_ne HYa.out hne.out eb)
      have D4 : Keep (Below w2.heap.size w2 (wC.setRow gb eb)) := ⟨below_setRow D3.out hlo.out.2 _⟩
      generalize wC.setRow gb eb = wS at *
      refine hK _ _ (hSS.out _ D4.out) fun hH4 => ?_
      clear hK HYa HYb D3
      simp only [Act.put, pqA, pqB, pqC]
      refine wpAnyH_done (by kernel_rfl) ?_ _
      exact rest8 ga gb wS HSa.out HSb.out D4.out
     ·refine wp_newA 36 rfl ez (fun wzz => by rw [hez.out]; exact Tryz.new36 wzz) ?_
      obtain ⟨gb, hgb⟩ : ∃ b, Keep (b = w2.drew.heap.size) := ⟨_, ⟨rfl⟩⟩
      obtain ⟨wA, hw1⟩ : ∃ wx, Keep (wx = w2.drew.alloc (.cells ez 36)) := ⟨_, ⟨rfl⟩⟩
      rw [← hgb.out, ← hw1.out]
      have HZgb : Keep (Blk wA gb 36 ez) := ⟨by rw [hgb.out, hw1.out]; exact Blk.new _ _ _⟩
      have BN1 : Keep (Below w2.drew.heap.size w2.drew wA) := ⟨by rw [hw1.out]; exact below_new _ _⟩
      have D1 : Keep (Below w2.heap.size w2 wA) := ⟨belowC hD0.out BN1.out⟩
      refine hK _ _ (hSS.out _ D1.out) fun hH1 => ?_
      clear hK hw1
      simp only [Act.put, pqA, pqB, pqC]
      refine wpAnyH_ready (rs := [12]) (by kernel_rfl) (by simp) ?_
      refine AllReadyH.cons (o := ⟨some 8, Op.alloc 36, 0, _, _, none⟩) rfl (fun K hK => ?_) AllReadyH.nil
      rw [if_pos (by rfl)]
      refine wp_newA 36 rfl ez (fun wzz => by rw [hez.out]; exact Tryz.new36 wzz) ?_
      obtain ⟨ga, hga⟩ : ∃ b, Keep (b = wA.heap.size) := ⟨_, ⟨rfl⟩⟩
      obtain ⟨wB, hw2⟩ : ∃ wx, Keep (wx = wA.alloc (.cells ez 36)) := ⟨_, ⟨rfl⟩⟩
      rw [← hga.out, ← hw2.out]
      have HZga : Keep (Blk wB ga 36 ez) := ⟨by rw [hga.out, hw2.out]; exact Blk.new _ _ _⟩
      have BN2 : Keep (Below wA.heap.size wA wB) := ⟨by rw [hw2.out]; exact below_new _ _⟩
      have D2 : Keep (Below w2.heap.size w2 wB) := ⟨belowC D1.out BN2.out⟩
      refine hK _ _ (hSS.out _ D2.out) fun hH2 => ?_
      clear hK hw2
      have HXgb : Keep (Blk wB gb 36 ez) := ⟨HZgb.out.below BN2.out HZgb.out.lt⟩
      have HXga := HZga
      have hne : Keep (ga ≠ gb) := ⟨fun e => by have h1 := HZgb.out.lt; have h2 := hga.out; omega⟩
      have hlo : Keep (w2.heap.size ≤ ga ∧ w2.heap.size ≤ gb) := ⟨by have h1 := hgb.out; have h2 := hga.out; have h3 := BN1.out.size; have h4 := hD0.out.size; omega⟩
      clear HZga HZgb hga hgb BN1 BN2 D1
      simp only [Act.put, pqA, pqB, pqC]
      refine wpAnyH_ready (rs := [14]) (by kernel_rfl) (by simp) ?_
      refine AllReadyH.cons (o := ⟨none, Op.store 36 (Operand.tmp 8) (Operand.tmp 68), 0, _, _, none⟩) rfl (fun K hK => ?_) AllReadyH.nil
      rw [if_pos (by rfl)]
      refine wp_store_row 36 (Operand.tmp 8) (Operand.tmp 68) rfl ga ea rfl rfl 36 ez HXga.out (by rw [hea.out]; exact size36E _) (by rw [hea.out, hez.out, bytesA_size, bytesA_size]) (by rw [hea.out]; exact bytesA_one _ _) ?_
      have HYa := Keep.mk (HXga.out.setRow ea)
      have HYb := Keep.mk (Nd.Blk.setRow_ne HXgb.out hne.out.symm ea)
      have D3 : Keep (Below w2.heap.size w2 (wB.setRow ga ea)) := ⟨below_setRow D2.out hlo.out.1 _⟩
      generalize wB.setRow ga ea = wC at *
      refine hK _ _ (hSS.out _ D3.out) fun hH3 => ?_
      clear hK HXga HXgb D2
      simp only [Act.put, pqA, pqB, pqC]
      refine wpAnyH_ready (rs := [15]) (by kernel_rfl) (by simp) ?_
      refine AllReadyH.cons (o := ⟨none, Op.store 36 (Operand.tmp 9) (Operand.tmp 74), 0, _, _, none⟩) rfl (fun K hK => ?_) AllReadyH.nil
      rw [if_pos (by rfl)]
      refine wp_store_row 36 (Operand.tmp 9) (Operand.tmp 74) rfl gb eb rfl rfl 36 ez HYb.out (by rw [heb.out]; exact size36E _) (by rw [heb.out, hez.out, bytesA_size, bytesA_size]) (by rw [heb.out]; exact bytesA_one _ _) ?_
      have HSb := Keep.mk (HYb.out.setRow eb)
      have HSa := Keep.mk (Nd.Blk.setRow_ne HYa.out hne.out eb)
      have D4 : Keep (Below w2.heap.size w2 (wC.setRow gb eb)) := ⟨below_setRow D3.out hlo.out.2 _⟩
      generalize wC.setRow gb eb = wS at *
      refine hK _ _ (hSS.out _ D4.out) fun hH4 => ?_
      clear hK HYa HYb D3
      simp only [Act.put, pqA, pqB, pqC]
      refine wpAnyH_done (by kernel_rfl) ?_ _
      exact rest8 ga gb wS HSa.out HSb.out D4.out
set_option maxRecDepth 16000 in
set_option maxHeartbeats 4000000 in
theorem follows_any (v0 : Value) (L : List EP) (x0 x1 : Int) (w : World) (hs : ESl w v0 L) (hi : EIn w L) (hL : L.length ≤ 4398046511104) : Calls Tryz.prog 8 #[v0, .agg #[.int .i64 x0, .int .i64 x1]] w fun e w' => e = .returned (.bool true) ∧ Below w.heap.size w w' := by
 by_cases hok : ∀ i, i < L.length → al1 (exs L) i = 0
 rotate_left
 ·obtain ⟨sa, sc, rfl⟩ := hs.form
  have HS := Keep.mk hs
  have HI := Keep.mk hi
  have HL := Keep.mk hL
  obtain ⟨tv, htv⟩ : ∃ c : Array Value, Keep (c = #[.int .i64 x0, .int .i64 x1]) := ⟨_, ⟨rfl⟩⟩
  rw [← htv.out]
  have hbad := hok
  clear hs hi hL
  go_enter Tryz.func8, Tryz.ntmps8
  refine wp_seq_k fun K1 hK1 => rgn ?_
  refine WL.box (by kernel_rfl) 66 (.tmp 1) rfl (tv) rfl ?_
  obtain ⟨w0, hwn⟩ : ∃ wx, Keep (wx = w.alloc (.cells (tv) 66)) := ⟨_, ⟨rfl⟩⟩
  rw [← hwn.out]
  have HT0 : Keep (Blk w0 w.heap.size 66 (tv)) := ⟨by rw [hwn.out]; exact Blk.new _ _ _⟩
  have L0 : Keep (Below w.heap.size w w0) := ⟨by rw [hwn.out]; exact below_new _ _⟩
  clear hwn
  obtain ⟨gt, hgt⟩ : ∃ g, Keep (g = w.heap.size) := ⟨_, ⟨rfl⟩⟩
  rw [← hgt.out] at HT0 ⊢
  clear hgt
  simp only [Act.put, pqA, pqB, pqC]
  refine VbF ?_
  refine WL.nil (hK1 _ _ ?_)
  refine wp_seq_k fun K2 hK2 => ?_
  refine wp_seq_k fun K3 hK3 => rgn ?_
  refine WL.callF (by kernel_rfl) 9 _ _ rfl Tryz.in9 #[] (by simp) ?_
  refine (awake_any w0).mono ?_
  rintro e w1 ⟨rfl, hb⟩
  refine ⟨_, rfl, ?_⟩
  have B1 := Keep.mk (belowC L0.out hb)
  have HT1 := Keep.mk (HT0.out.below hb HT0.out.lt)
  clear hb HT0
  simp only [Act.put, pqA, pqB, pqC]
  refine VbF ?_
  refine WL.nil (hK3 _ _ ?_)
  refine wp_cond_false rfl ?_
  refine wp_skip ?_
  refine hK2 _ _ ?_
  refine wp_seq_k fun K4 hK4 => rgn ?_
  refine VlS (.slice sa L.length sc) ?_
  refine WL.callF (by kernel_rfl) 10 _ _ rfl Tryz.in10 #[.slice sa L.length sc] (by simp [Act.eval]) ?_
  refine (of_any _ L w1 (HS.out.below B1.out) (HI.out.below B1.out) HL.out).mono ?_
  rintro e w2 (⟨p, H, S, -, hP⟩ | ⟨hb, i, hi, -, hne, rfl⟩ | ⟨-, h, -⟩)
  ·exact absurd (fun i hi => hP.good.al i (by rw [exs_len]; exact hi)) hbad
  rotate_left
  ·exact absurd h hbad
  refine ⟨_, rfl, ?_⟩
  obtain ⟨c, hc⟩ : ∃ c, Keep (al1 (exs L) i = c) := ⟨_, ⟨rfl⟩⟩
  rw [hc.out]
  have hc0 : ¬ c = 0 := by rw [← hc.out]; exact hne
  simp only [Act.put, pqA, pqB, pqC]
  refine VlS (.tuple #[.pointer none, .int .i64 c, .int .i64 (i : Int)]) ?_
  refine VlS (.pointer none) ?_
  refine VlS (.int .i64 c) ?_
  refine VlS (.int .i64 (i : Int)) ?_
  refine VlS (.pointer none) ?_
  refine VlS (.int .i64 c) ?_
  refine VlS (.int .i64 (i : Int)) ?_
  refine WL.nil (hK4 _ _ ?_)
  refine wp_seq_k fun K5 hK5 => ?_
  refine wp_seq_k fun K6 hK6 => rgn ?_
  refine VlS (.int .i64 c) ?_
  refine VbT ?_
  refine VbT ?_
  refine SkS ?_
  refine SkS ?_
  refine VbT ?_
  refine WL.nil (hK6 _ _ ?_)
  refine wp_cond_true rfl ?_
  refine wp_seq_k fun K7 hK7 => rgn ?_
  refine VlS (.int .i64 c) ?_
  refine VbT ?_
  refine VbT ?_
  refine VlS (.pointer none) ?_
  refine VbT ?_
  refine VbT ?_
  refine VbT ?_
  refine WL.nil (hK7 _ _ ?_)
  refine wp_ret ?_
  go_ret
  exact ⟨rfl, belowC B1.out hb⟩
 by_cases hok2 : ∀ i, i < L.length → tg1 (exs L) i = 0
 rotate_left
 ·obtain ⟨sa, sc, rfl⟩ := hs.form
  have HS := Keep.mk hs
  have HI := Keep.mk hi
  have HL := Keep.mk hL
  obtain ⟨tv, htv⟩ : ∃ c : Array Value, Keep (c = #[.int .i64 x0, .int .i64 x1]) := ⟨_, ⟨rfl⟩⟩
  rw [← htv.out]
  have hbad := hok2
  clear hs hi hL
  go_enter Tryz.func8, Tryz.ntmps8
  refine wp_seq_k fun K1 hK1 => rgn ?_
  refine WL.box (by kernel_rfl) 66 (.tmp 1) rfl (tv) rfl ?_
  obtain ⟨w0, hwn⟩ : ∃ wx, Keep (wx = w.alloc (.cells (tv) 66)) := ⟨_, ⟨rfl⟩⟩
  rw [← hwn.out]
  have HT0 : Keep (Blk w0 w.heap.size 66 (tv)) := ⟨by rw [hwn.out]; exact Blk.new _ _ _⟩
  have L0 : Keep (Below w.heap.size w w0) := ⟨by rw [hwn.out]; exact below_new _ _⟩
  clear hwn
  obtain ⟨gt, hgt⟩ : ∃ g, Keep (g = w.heap.size) := ⟨_, ⟨rfl⟩⟩
  rw [← hgt.out] at HT0 ⊢
  clear hgt
  simp only [Act.put, pqA, pqB, pqC]
  refine VbF ?_
  refine WL.nil (hK1 _ _ ?_)
  refine wp_seq_k fun K2 hK2 => ?_
  refine wp_seq_k fun K3 hK3 => rgn ?_
  refine WL.callF (by kernel_rfl) 9 _ _ rfl Tryz.in9 #[] (by simp) ?_
  refine (awake_any w0).mono ?_
  rintro e w1 ⟨rfl, hb⟩
  refine ⟨_, rfl, ?_⟩
  have B1 := Keep.mk (belowC L0.out hb)
  have HT1 := Keep.mk (HT0.out.below hb HT0.out.lt)
  clear hb HT0
  simp only [Act.put, pqA, pqB, pqC]
  refine VbF ?_
  refine WL.nil (hK3 _ _ ?_)
  refine wp_cond_false rfl ?_
  refine wp_skip ?_
  refine hK2 _ _ ?_
  refine wp_seq_k fun K4 hK4 => rgn ?_
  refine VlS (.slice sa L.length sc) ?_
  refine WL.callF (by kernel_rfl) 10 _ _ rfl Tryz.in10 #[.slice sa L.length sc] (by simp [Act.eval]) ?_
  refine (of_any _ L w1 (HS.out.below B1.out) (HI.out.below B1.out) HL.out).mono ?_
  rintro e w2 (⟨p, H, S, -, hP⟩ | ⟨-, i, hi, -, hne, -⟩ | ⟨hb, -, i, hi, -, hne, rfl⟩)
  ·exact absurd (fun i hi => hP.good.tg i (by rw [exs_len]; exact hi)) hbad
  ·exact absurd (hok i hi) hne
  refine ⟨_, rfl, ?_⟩
  obtain ⟨c, hc⟩ : ∃ c, Keep (tg1 (exs L) i = c) := ⟨_, ⟨rfl⟩⟩
  rw [hc.out]
  have hc0 : ¬ c = 0 := by rw [← hc.out]; exact hne
  simp only [Act.put, pqA, pqB, pqC]
  refine VlS (.tuple #[.pointer none, .int .i64 c, .int .i64 (i : Int)]) ?_
  refine VlS (.pointer none) ?_
  refine VlS (.int .i64 c) ?_
  refine VlS (.int .i64 (i : Int)) ?_
  refine VlS (.pointer none) ?_
  refine VlS (.int .i64 c) ?_
  refine VlS (.int .i64 (i : Int)) ?_
  refine WL.nil (hK4 _ _ ?_)
  refine wp_seq_k fun K5 hK5 => ?_
  refine wp_seq_k fun K6 hK6 => rgn ?_
  refine VlS (.int .i64 c) ?_
  refine VbT ?_
  refine VbT ?_
  refine SkS ?_
  refine SkS ?_
  refine VbT ?_
  refine WL.nil (hK6 _ _ ?_)
  refine wp_cond_true rfl ?_
  refine wp_seq_k fun K7 hK7 => rgn ?_
  refine VlS (.int .i64 c) ?_
  refine VbT ?_
  refine VbT ?_
  refine VlS (.pointer none) ?_
  refine VbT ?_
  refine VbT ?_
  refine VbT ?_
  refine WL.nil (hK7 _ _ ?_)
  refine wp_ret ?_
  go_ret
  exact ⟨rfl, belowC B1.out hb⟩
 ·exact follows_good v0 L x0 x1 w hs hi hL ⟨fun i hi => hok i (by rwa [exs_len] at hi), fun i hi => hok2 i (by rwa [exs_len] at hi)⟩
end Go.Proofs.YthlohkgdmfkpeaaGreat
namespace Go.Proofs.YthlohkgdmfkpeaaGreat
open Go.ChangeShapes Go.WideShapes Go.ChangeAt Go.RowKit Go.Deep
set_option linter.unusedSimpArgs false
set_option linter.unusedVariables false

theorem Tryz.cellsOf52 : Tryz.prog.cellsOf 52 = 36 := by kernel_rfl
theorem Tryz.bytesOf52 : Tryz.prog.bytesOf 52 = 96 := by kernel_rfl
theorem entry_of_trod {H : Type} {enc : TypeId × Value → H} {W : World} {sp : Nat → Bool} {held : Bool} {n base : Nat} {cs : List Value} {x : DataW H × List MemPlace} (hf : DataW.trod enc Tryz.prog W base sp held n 52 cs = some x) (hw : ∀ n ∈ x.1.weights Tryz.prog 52, n ≤ reachBytes) :
  ∃ q : EP, cs = encE q ∧ Nd.NdAt W q.1.N q.2.1 q.2.2 := by
 obtain ⟨y0, y1, k, hx, hl, h0, h1⟩ := Nd.trod_struct2 Tryz.underlying52 hf
 rw [Tryz.cellsOf52] at hl
 simp only [Nd.Tryz.cellsOf36, Nd.Tryz.cellsOf50, List.drop_zero] at h0 h1
 obtain ⟨h, eh⟩ := Nd.hashH_of_trod h0
 obtain ⟨N, vp, vo, e1, r1, r2, r3, r4, r5, r6, r7⟩ := Nd.node_of_trod h1 (fun n hn => hw n (by
  rw [hx]
  simp only [DataW.weights, Tryz.underlying52]
  exact DataW.weights_mem_each (j := 1) (t := 50) rfl rfl n hn))
 refine ⟨(⟨h, N⟩, vp, vo), ?_, ⟨r1, r3, r4, r2, r5, r3.blt, r6.1, r6.2, r7.1, r7.2⟩⟩
 have e2 : (cs.drop 32).take 4 = cs.drop 32 := List.take_of_length_le (by rw [List.length_drop]; omega)
 rw [← List.take_append_drop 32 cs, eh]
 rw [e2] at e1
 rw [e1]
 show _ = (entA h.f N.au N.ck vp vo).toList
 unfold entA
 rw [Array.toList_append]
 rfl
theorem ents_of_trod {H : Type} {enc : TypeId × Value → H} {W : World} {sp : Nat → Bool} {held : Bool} {fuel base : Nat} {v : Value} {x : DataW H × List MemPlace} (hf : DataW.trod enc Tryz.prog W base sp held fuel 23 [v] = some x) (hw : ∀ n ∈ x.1.weights Tryz.prog 23, n ≤ reachBytes) :
  ∃ L : List EP, ESl W v L ∧ EIn W L ∧ L.length ≤ 4398046511104 := by
 rcases open_slice Tryz.underlying23 hf with ⟨hcs, _⟩ | ⟨a, len, cap, m, n, D, Pl, hcs, _, hl_, hm, hz, hx, hcell⟩
 ·simp at hcs
  subst hcs
  exact ⟨[], .inl ⟨none, 0, rfl, rfl⟩, (fun q hq => by cases hq), by simp⟩
 ·simp at hcs
  subst hcs
  have hlz : len ≤ m := by rw [hz]; split <;> omega
  have hb : len ≤ 4398046511104 := by
   have h1 := hw ((((List.range len).map D).length + ((List.range (m - len)).map fun j => D (len + j)).length) * 96) (by
    rw [hx]
    simp only [DataW.weights, Tryz.underlying23]
    simp [Tryz.bytesOf52])
   rw [Nd.reach_is] at h1
   simp only [List.length_map, List.length_range] at h1
   omega
  have hwD : ∀ i, i < len → ∀ n ∈ (D i).weights Tryz.prog 52, n ≤ reachBytes := fun i hi n hn => hw n (by
   rw [hx]
   simp only [DataW.weights, Tryz.underlying23]
   refine List.mem_cons_of_mem _ (List.mem_append_left _ (Nd.mem_weightsAll (d := D i) ?_ n hn))
   exact List.mem_map.2 ⟨i, List.mem_range.2 hi, rfl⟩)
  have each : ∀ i, i < len → ∃ q : EP, (∀ j v, (encE q)[j]? = some v → W.cell? ((a.add (i * 36)).add j) = some v) ∧ Nd.NdAt W q.1.N q.2.1 q.2.2 := by
   intro i hi
   obtain ⟨cs', h1, h2⟩ := hcell i (by omega)
   rw [Tryz.cellsOf52] at h1
   obtain ⟨_, hlen, hce⟩ := World.cells?_some h1
   obtain ⟨q, hqe, hq2⟩ := entry_of_trod h2 (hwD i hi)
   clear h2
   refine ⟨q, fun j v hv => ?_, hq2⟩
   obtain ⟨hj, e⟩ := List.getElem?_eq_some_iff.1 hv
   rw [encE_len] at hj
   rw [hce j (by omega), hqe, ← hv]
  haveI : Inhabited EP := ⟨q0⟩
  obtain ⟨q, hq⟩ := Go.Deep.choose_lt each
  refine ⟨(List.range len).map q, ?_, fun u hu => ?_, by simpa using hb⟩
  ·by_cases h0 : len = 0
   ·subst h0
    exact .inl ⟨some a, cap, rfl, rfl⟩
   ·have hs : a.spot = none := by
     have hv0 : (encE (q 0))[0]? = some (.int .u8 ((q 0).1.id.f 0)) := by
      rw [encE, Array.getElem?_toList]
      simp [entA, Array.getElem?_append, bytesA_size, bytesA]
     have := (hq 0 (by omega)).1 0 _ hv0
     rw [Nat.zero_mul, show a.add 0 = a from rfl, show a.add 0 = a from rfl] at this
     exact World.cell?_spot this
    obtain ⟨b, off, sp⟩ := a
    obtain rfl : sp = none := hs
    refine .inr ⟨b, off, cap, by simp, by simp; omega, flat_of_elems encE_len fun i hi j v hv => ?_⟩
    have hi' : i < len := by simpa using hi
    have := (hq i hi').1 j v (by simpa using hv)
    simp only [Nd.add_none'] at this
    exact this
  ·obtain ⟨i, hi, rfl⟩ := List.mem_map.1 hu
   exact (hq i (List.mem_range.1 hi)).2
end Go.Proofs.YthlohkgdmfkpeaaGreat
