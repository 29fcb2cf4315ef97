import Derived.Test.YthlohkgdmfkpeaaGreatB17
import Derived.Test.YthlohkgdmfkpeaaGreatB15
import Derived.Test.YthlohkgdmfkpeaaGreatB04
import Derived.ProofKit
import Derived.OpenShut
import Derived.ChangeOld
import Derived.Below
import Derived.SizedLaws
import Derived.Deep.Slices
namespace Go.Proofs.YthlohkgdmfkpeaaGreat
open Go.RowKit
set_option linter.unusedSimpArgs false
set_option linter.unusedVariables false

def seenB (H : List EP) (S : List (Nat × List Nat)) (x : Hs) (n : Nat) (h : Hs) : Bool := decide (h = x) || seesW S n (ixH (idsE (exs H)) h)
theorem seen_all {H : List EP} {S : List (Nat × List Nat)} (hst : Hst (exs H) (S.map (·.2))) {hs : List Hs} (hy : ∀ g ∈ hs, g ∈ (idsE (exs H))) {n : Nat} {x : Hs} (hx : x ∈ (idsE (exs H))) (hn : ixH (idsE (exs H)) x = n) (hr : rch (exs H) (S.map (·.2)) hs n = true) : hs.any (seenB H S x n) = true := by
 obtain ⟨g, hg, h2⟩ := List.any_eq_true.1 hr
 refine List.any_eq_true.2 ⟨g, hg, ?_⟩
 rw [seenB, Bool.or_eq_true]
 by_cases e : n = ixH (idsE (exs H)) g
 ·refine .inl (decide_eq_true ?_)
  have e1 := ixH_get (ixH_lt.2 (hy g hg))
  have e2 := ixH_get (ixH_lt.2 hx)
  rw [← e1, ← e2]
  congr 1
  omega
 ·refine .inr ?_
  rw [seesW, decide_eq_false e, h2]
  rfl
theorem takeB_any {α : Type} (f : α → Bool) (l : List α) (i : Nat) (hi : i < l.length) : (l.take (i + 1)).any f = ((l.take i).any f || f l[i]) := by
 rw [List.take_succ_eq_append_getElem hi, List.any_append]; simp
set_option maxRecDepth 16000 in
set_option maxHeartbeats 16000000 in
theorem grows_good (v0 : Value) (L : List EP) (v1 : Value) (al_ : List Hs) (v2 : Value) (bs : List Hs) (w : World) (hs : ESl w v0 L) (hi : EIn w L) (ha : HRow w v1 al_) (hb : HRow w v2 bs) (hL : L.length ≤ 4398046511104) (hA : al_.length ≤ 4398046511104) (hB : bs.length ≤ 4398046511104) (hG : Good (exs L)) : Calls Tryz.prog 7 #[v0, v1, v2] w fun e w' => e = .returned (.bool true) ∧ Below w.heap.size w w' := by
 obtain ⟨sa, sc, rfl⟩ := hs.form
 obtain ⟨aa, ac_, rfl⟩ := ha.form
 obtain ⟨ba, bc, rfl⟩ := hb.form
 have HS := Keep.mk hs
 have HI := Keep.mk hi
 have HA := Keep.mk ha
 have HB := Keep.mk hb
 have HL := Keep.mk hL
 have HAl := Keep.mk hA
 have HBl := Keep.mk hB
 have HG := Keep.mk hG
 clear hs hi ha hb hL hA hB hG
 go_enter Tryz.func7, Tryz.ntmps7
 refine wp_seq_k fun K1 hK1 => rgn ?_
 refine VbF ?_
 refine WL.nil (hK1 _ _ ?_)
 refine wp_seq_k fun K2 hK2 => ?_
 refine wp_seq_k fun K3 hK3 => rgn ?_
 refine WL.callF (by kernel_rfl) 9 _ _ rfl Tryz.in9 #[] (by simp) ?_
 refine (awake_any w).mono ?_
 rintro e w1 ⟨rfl, hb⟩
 refine ⟨_, rfl, ?_⟩
 have B1 := Keep.mk hb
 clear hb
 simp only [Act.put, pqA, pqB, pqC]
 refine VbF ?_
 refine WL.nil (hK3 _ _ ?_)
 refine wp_cond_false rfl ?_
 refine wp_skip ?_
 refine hK2 _ _ ?_
 refine wp_seq_k fun K4 hK4 => rgn ?_
 refine VlS (.slice sa L.length sc) ?_
 refine WL.callF (by kernel_rfl) 10 _ _ rfl Tryz.in10 #[.slice sa L.length sc] (by simp [Act.eval]) ?_
 refine (of_any _ L w1 (HS.out.below B1.out) (HI.out.below B1.out) HL.out).mono ?_
 rintro e w2 (⟨p, H, S, rfl, hP⟩ | ⟨-, i, hi, -, hne, -⟩ | ⟨-, -, i, hi, -, hne, -⟩)
 rotate_left
 ·exact absurd (HG.out.al i (by rw [exs_len]; exact hi)) hne
 ·exact absurd (HG.out.tg i (by rw [exs_len]; exact hi)) hne
 refine ⟨_, rfl, ?_⟩
 have B2 : Keep (Below w.heap.size w w2) := ⟨belowC B1.out hP.bel⟩
 obtain ⟨v, mb, ub, hHis⟩ := his_of hP
 have HP := Keep.mk hHis
 clear hP hHis
 simp only [Act.put, pqA, pqB, pqC]
 refine VlS (.tuple #[.pointer (some ⟨p, 0, none⟩), .int .i64 0, .int .i64 0]) ?_
 refine VlS (.pointer (some ⟨p, 0, none⟩)) ?_
 refine VlS (.int .i64 0) ?_
 refine VlS (.int .i64 0) ?_
 refine VlS (.pointer (some ⟨p, 0, none⟩)) ?_
 refine VlS (.int .i64 0) ?_
 refine VlS (.int .i64 0) ?_
 refine WL.nil (hK4 _ _ ?_)
 refine wp_seq_k fun K5 hK5 => ?_
 refine wp_seq_k fun K6 hK6 => rgn ?_
 refine VlS (.int .i64 0) ?_
 refine VbF ?_
 refine VbF ?_
 refine VlS (.pointer (some ⟨p, 0, none⟩)) ?_
 refine VbF ?_
 refine VbF ?_
 refine WL.nil (hK6 _ _ ?_)
 refine wp_cond_false rfl ?_
 refine wp_skip ?_
 refine hK5 _ _ ?_
 refine wp_seq_k fun K7 hK7 => rgn ?_
 refine VlS (.pointer (some ⟨p, 0, none⟩)) ?_
 refine VlS (.pointer (some ⟨p, 0, none⟩)) ?_
 refine WL.callF (by kernel_rfl) 24 _ _ rfl Tryz.in24 #[.pointer (some ⟨p, 0, none⟩)] (by simp [Act.eval]) ?_
 refine (his_heads HP.out).mono ?_
 rintro e w3 ⟨vh, Lh, rfl, h1, h2, h3, h4, h5⟩
 refine ⟨_, rfl, ?_⟩
 have OH := Keep.mk h1
 have PLh := Keep.mk h2
 clear h2
 have MH := Keep.mk h3
 have EH := Keep.mk h4
 have C3 := Keep.mk h5
 have HP3 := Keep.mk (HP.out.below h5)
 clear h1 h3 h4 h5
 simp only [Act.put, pqA, pqB, pqC]
 have HLh : Keep (Lh.length ≤ 4398046511104) := ⟨by
  have h7 := (List.Nodup.length_le_of_subset' (PLh.out.imp fun {a b} h e => by subst e; exact Lt.irrefl _ h) MH.out)
  rw [idsE_len, exs_len] at h7
  have := HP.out.rd.n
  omega⟩
 refine WL.callF (by kernel_rfl) 23 _ _ rfl Tryz.in23 #[.pointer (some ⟨p, 0, none⟩), vh] (by simp [Act.eval]) ?_
 refine (his_at HP3.out vh Lh OH.out.row (by have h6 : Lh.length ≤ 4398046511104 := HLh.out; exact h6)).mono ?_
 rintro e w4 ⟨hb, ⟨⟨g, hg, hgn⟩, -⟩ | ⟨-, p4, K4, R4, v4, m4, u4_, rfl, hK4, hE4⟩⟩
 ·exact absurd (MH.out g hg) hgn
 refine ⟨_, rfl, ?_⟩
 have S4 := Keep.mk (his_same hK4 (HP3.out.below hb) (by rw [hE4, EH.out]))
 have C4 := Keep.mk (belowC C3.out hb)
 clear hb hK4 hE4
 simp only [Act.put, pqA, pqB, pqC]
 refine VlS (.tuple #[.pointer (some ⟨p4, 0, none⟩), .int .i64 0]) ?_
 refine VlS (.pointer (some ⟨p4, 0, none⟩)) ?_
 refine VlS (.int .i64 0) ?_
 refine VlS (.pointer (some ⟨p4, 0, none⟩)) ?_
 refine VlS (.int .i64 0) ?_
 refine WL.nil (hK7 _ _ ?_)
 refine wp_seq_k fun K8 hK8 => ?_
 refine wp_seq_k fun K9 hK9 => rgn ?_
 refine VlS (.int .i64 0) ?_
 refine VbF ?_
 refine VbF ?_
 refine VlS (.pointer (some ⟨p4, 0, none⟩)) ?_
 refine VlS (.pointer (some ⟨p, 0, none⟩)) ?_
 refine WL.callF (by kernel_rfl) 22 _ _ rfl Tryz.in22 #[.pointer (some ⟨p4, 0, none⟩), .pointer (some ⟨p, 0, none⟩)] (by simp [Act.eval]) ?_
 refine (same_law p4 p K4 H R4 S v4 v m4 u4_ mb ub w4 S4.out).mono ?_
 rintro e w5 ⟨rfl, hb⟩
 refine ⟨_, rfl, ?_⟩
 have C5 := Keep.mk (belowC C4.out hb)
 clear hb S4
 simp only [Act.put, pqA, pqB, pqC]
 refine VbF ?_
 refine VbF ?_
 refine WL.nil (hK9 _ _ ?_)
 refine wp_cond_false rfl ?_
 refine wp_skip ?_
 refine hK8 _ _ ?_
 refine wp_seq_k fun K10 hK10 => ?_
 refine wp_seq_k fun K11 hK11 => rgn ?_
 refine VlS (.slice aa al_.length ac_) ?_
 refine VlS (.int .i64 (al_.length : Int)) ?_
 refine VlS (.int .i64 0) ?_
 refine WL.nil (hK11 _ _ ?_)
 refine wp_block ?_
 refine wp_loop (fun ac wr => ∃ (i : Nat) (fi : Nat → Value), ac = { tmps := #[.slice sa L.length sc, .slice aa al_.length ac_, .slice ba bs.length bc, undef, undef, undef, .bool false, .pointer (some ⟨p, 0, none⟩), .int .i64 0, .int .i64 0, .pointer (some ⟨p4, 0, none⟩), .int .i64 0, undef, fi 13, fi 14, fi 15, undef, undef, undef, undef, undef, undef, undef, undef, undef, undef, undef, .bool true, .bool false, .tuple #[.pointer (some ⟨p, 0, none⟩), .int .i64 0, .int .i64 0], .slice sa L.length sc, .tuple #[.pointer (some ⟨p, 0, none⟩), .int .i64 0, .int .i64 0], .pointer (some ⟨p, 0, none⟩), .int .i64 0, .int .i64 0, .int .i64 0, .bool false, .bool false, .pointer (some ⟨p, 0, none⟩), .bool false, .bool false, undef, undef, undef, undef, undef, undef, .tuple #[.pointer (some ⟨p4, 0, none⟩), .int .i64 0], .pointer (some ⟨p, 0, none⟩), .pointer (some ⟨p, 0, none⟩), vh, .tuple #[.pointer (some ⟨p4, 0, none⟩), .int .i64 0], .pointer (some ⟨p4, 0, none⟩), .int .i64 0, .int .i64 0, .bool false, .bool false, .pointer (some ⟨p4, 0, none⟩), .pointer (some ⟨p, 0, none⟩), .bool true, .bool false, .bool false, .slice aa al_.length ac_, .int .i64 (al_.length : Int), .int .i64 (i : Int), fi 65, fi 66, fi 67, fi 68, fi 69, fi 70, fi 71, fi 72, fi 73, fi 74, fi 75, fi 76, fi 77, fi 78, fi 79, fi 80, fi 81, fi 82, fi 83, fi 84, undef, undef, undef, undef, undef, undef, undef, undef, undef, undef, undef, undef, undef, undef, undef, undef, undef, undef, undef, undef, undef, undef, undef, undef, undef, undef, undef, undef, undef, undef, undef, undef, undef, undef, undef, undef, undef, undef, undef, undef, undef, undef, undef, undef, undef, undef, undef, undef, undef, undef, undef, undef, undef, undef, undef, undef, undef, undef, undef, undef, undef, undef, undef, undef, undef, undef, undef, undef, undef, undef, undef, undef, undef, undef, undef, undef, undef, undef, undef, undef, undef, undef, undef, undef, undef], defers := [] } ∧ i ≤ al_.length ∧ Below w2.heap.size w2 wr ∧ ∀ g ∈ al_.take i, g ∈ idsE (exs H)) (fun a _ => al_.length - (intOf (a.tmps.getD 64 undef)).toNat) ⟨0, fun zz => [.slice sa L.length sc, .slice aa al_.length ac_, .slice ba bs.length bc, undef, undef, undef, .bool false, .pointer (some ⟨p, 0, none⟩), .int .i64 0, .int .i64 0, .pointer (some ⟨p4, 0, none⟩), .int .i64 0, undef, undef, undef, undef, undef, undef, undef, undef, undef, undef, undef, undef, undef, undef, undef, .bool true, .bool false, .tuple #[.pointer (some ⟨p, 0, none⟩), .int .i64 0, .int .i64 0], .slice sa L.length sc, .tuple #[.pointer (some ⟨p, 0, none⟩), .int .i64 0, .int .i64 0], .pointer (some ⟨p, 0, none⟩), .int .i64 0, .int .i64 0, .int .i64 0, .bool false, .bool false, .pointer (some ⟨p, 0, none⟩), .bool false, .bool false, undef, undef, undef, undef, undef, undef, .tuple #[.pointer (some ⟨p4, 0, none⟩), .int .i64 0], .pointer (some ⟨p, 0, none⟩), .pointer (some ⟨p, 0, none⟩), vh, .tuple #[.pointer (some ⟨p4, 0, none⟩), .int .i64 0], .pointer (some ⟨p4, 0, none⟩), .int .i64 0, .int .i64 0, .bool false, .bool false, .pointer (some ⟨p4, 0, none⟩), .pointer (some ⟨p, 0, none⟩), .bool true, .bool false, .bool false, .slice aa al_.length ac_, .int .i64 (al_.length : Int), .int .i64 0, undef, undef, undef, undef, undef, undef, undef, undef, undef, undef, undef, undef, undef, undef, undef, undef, undef, undef, undef, undef, undef, undef, undef, undef, undef, undef, undef, undef, undef, undef, undef, undef, undef, undef, undef, undef, undef, undef, undef, undef, undef, undef, undef, undef, undef, undef, undef, undef, undef, undef, undef, undef, undef, undef, undef, undef, undef, undef, undef, undef, undef, undef, undef, undef, undef, undef, undef, undef, undef, undef, undef, undef, undef, undef, undef, undef, undef, undef, undef, undef, undef, undef, undef, undef, undef, undef, undef, undef, undef, undef, undef, undef, undef, undef, undef, undef, undef, undef, undef, undef, undef, undef, undef, undef, undef].getD zz undef, rfl, by omega, C5.out, fun g hg => by simp at hg⟩ ?_
 rintro ac wr ⟨i, fi, rfl, hi, hB2, hM2⟩
 have IB := Keep.mk hB2
 have IM := Keep.mk hM2
 clear hB2 hM2
 by_cases hil : i < al_.length
 ·have hil' : (i : Int) < (al_.length : Int) := by omega
  have hi0 : (0 : Int) ≤ (i : Int) := by omega
  have hwi : IntKind.i64.wrap ((i : Int) + 1) = ((i + 1 : Nat) : Int) := by rw [IntKind.wrap_i64]; have := HAl.out; omega
  obtain ⟨pb, po, hpa, hpr⟩ := hrow_at (HA.out.below (B2.out.trans (IB.out.mono B2.out.size))) hil
  subst hpa
  obtain ⟨h, hh⟩ : ∃ h : Hs, Keep (h = al_[i]) := ⟨_, ⟨rfl⟩⟩
  rw [← hh.out] at hpr
  have HPr := Keep.mk hpr
  clear hpr
  obtain ⟨nv, hnv⟩ : ∃ k, Keep (numV (idsE (exs H)) h = k) := ⟨_, ⟨rfl⟩⟩
  refine wp_seq_k fun K12 hK12 => rgn ?_
  refine VbT ?_
  refine WL.nil (hK12 _ _ ?_)
  refine wp_seq_k fun K13 hK13 => ?_
  refine wp_cond_true rfl ?_
  refine wp_skip ?_
  refine hK13 _ _ ?_
  refine wp_seq_k fun K14 hK14 => ?_
  refine wp_block ?_
  refine wp_seq_k fun K15 hK15 => rgn ?_
  refine VlS (.pointer (some ⟨pb, po + i * 32, none⟩)) ?_
  refine WL.midA (by kernel_rfl) 36 (.tmp 66) rfl pb (po + i * 32) rfl (bytesA 32 h.f) _ HPr.out Tryz.underlying36 rfl (size36E _) ?_
  simp only [Act.put, pqA, pqB, pqC]
  refine WL.new (by kernel_rfl) 36 rfl (bytesA 32 fun _ => 0) Tryz.new36 ?_
  obtain ⟨wc, hwn⟩ : ∃ wx, Keep (wx = wr.alloc (.cells (bytesA 32 fun _ => 0) 36)) := ⟨_, ⟨rfl⟩⟩
  rw [← hwn.out]
  have HZ2 : Keep (Blk wc wr.heap.size 36 (bytesA 32 fun _ => 0)) := ⟨by rw [hwn.out]; exact Blk.new _ _ _⟩
  have LB2 : Keep (Below wr.heap.size wr wc) := ⟨by rw [hwn.out]; exact below_new _ _⟩
  clear hwn
  simp only [Act.put, pqA, pqB, pqC]
  refine WL.storeR (by kernel_rfl) 36 (.tmp 13) (.tmp 67) rfl wr.heap.size (bytesA 32 h.f) rfl rfl 36 _ HZ2.out (size36E _) (by rw [bytesA_size, bytesA_size]) (bytesA_one _ _) ?_
  have HH2 := Keep.mk (HZ2.out.setRow (bytesA 32 h.f))
  have LH : Keep (Below wr.heap.size wr (wc.setRow wr.heap.size (bytesA 32 h.f))) := ⟨below_setRow LB2.out (Nat.le_refl _) _⟩
  generalize wc.setRow wr.heap.size (bytesA 32 h.f) = wd at *
  clear HZ2 LB2
  have IBd := Keep.mk (belowC IB.out LH.out)
  generalize wr.heap.size = g2 at *
  clear LH HPr
  simp only [Act.put]
  refine WL.nil (hK15 _ _ ?_)
  refine wp_seq_k fun K16 hK16 => rgn ?_
  refine VlS (.pointer (some ⟨p, 0, none⟩)) ?_
  refine WL.row (by kernel_rfl) 36 (.tmp 13) rfl g2 rfl 36 (bytesA 32 h.f) _ HH2.out Tryz.underlying36 rfl (size36E _) ?_
  simp only [Act.put, pqA, pqB, pqC]
  refine WL.callF (by kernel_rfl) 13 _ _ rfl Tryz.in13 #[.pointer (some ⟨p, 0, none⟩), .agg (bytesA 32 h.f)] (by simp [Act.eval]) ?_
  refine (number_any H S v p mb ub wd (HP.out.rd.below IBd.out) h).mono ?_
  rintro e we ⟨rfl, hb⟩
  refine ⟨_, rfl, ?_⟩
  rw [hnv.out]
  have IBe := Keep.mk (belowC IBd.out hb)
  clear hb
  simp only [Act.put, pqA, pqB, pqC]
  by_cases h12_3 : nv < 0
  ·skip
   refine VbT ?_
   refine WL.nil (hK16 _ _ ?_)
   refine wp_cond_true rfl ?_
   refine wp_seq_k fun K17 hK17 => rgn ?_
   refine VlS (.pointer (some ⟨p, 0, none⟩)) ?_
   refine VlS (.slice (some ⟨pb, po, none⟩) al_.length ac_) ?_
   refine WL.callF (by kernel_rfl) 23 _ _ rfl Tryz.in23 #[.pointer (some ⟨p, 0, none⟩), .slice (some ⟨pb, po, none⟩) al_.length ac_] (by simp [Act.eval]) ?_
   refine (his_at (HP.out.below IBe.out) _ al_ (HA.out.below (B2.out.trans (IBe.out.mono B2.out.size))) HAl.out).mono ?_
   rintro e wf ⟨hb, ⟨-, rfl⟩ | ⟨hma, -⟩⟩
   rotate_left
   ·exact absurd (num_in (hma h (by rw [hh.out]; exact List.getElem_mem hil))) (by rw [hnv.out]; omega)
   refine ⟨_, rfl, ?_⟩
   have IBf := Keep.mk (belowC IBe.out hb)
   clear hb
   simp only [Act.put, pqA, pqB, pqC]
   refine VlS (.tuple #[.pointer none, .int .i64 6]) ?_
   refine VlS (.pointer none) ?_
   refine VlS (.int .i64 6) ?_
   refine VlS (.pointer none) ?_
   refine VlS (.int .i64 6) ?_
   refine WL.nil (hK17 _ _ ?_)
   refine wp_seq_k fun K18 hK18 => rgn ?_
   refine VlS (.int .i64 6) ?_
   refine VbT ?_
   refine VbT ?_
   refine VlS (.pointer none) ?_
   refine VbT ?_
   refine VbT ?_
   refine VbT ?_
   refine WL.nil (hK18 _ _ ?_)
   refine wp_ret ?_
   go_ret
   exact ⟨rfl, B2.out.trans (IBf.out.mono B2.out.size)⟩
  ·skip
   refine VbF ?_
   refine WL.nil (hK16 _ _ ?_)
   refine wp_cond_false rfl ?_
   refine wp_skip ?_
   refine hK14 _ _ ?_
   refine rgn ?_
   refine VlS (.int .i64 ((i + 1 : Nat) : Int)) ?_
   refine VlS (.int .i64 ((i + 1 : Nat) : Int)) ?_
   refine WL.nil ?_
   refine ⟨⟨i + 1, fun zz => [.slice sa L.length sc, .slice (some ⟨pb, po, none⟩) al_.length ac_, .slice ba bs.length bc, undef, undef, undef, .bool false, .pointer (some ⟨p, 0, none⟩), .int .i64 0, .int .i64 0, .pointer (some ⟨p4, 0, none⟩), .int .i64 0, undef, .pointer (some ⟨g2, 0, none⟩), fi 14, fi 15, undef, undef, undef, undef, undef, undef, undef, undef, undef, undef, undef, .bool true, .bool false, .tuple #[.pointer (some ⟨p, 0, none⟩), .int .i64 0, .int .i64 0], .slice sa L.length sc, .tuple #[.pointer (some ⟨p, 0, none⟩), .int .i64 0, .int .i64 0], .pointer (some ⟨p, 0, none⟩), .int .i64 0, .int .i64 0, .int .i64 0, .bool false, .bool false, .pointer (some ⟨p, 0, none⟩), .bool false, .bool false, undef, undef, undef, undef, undef, undef, .tuple #[.pointer (some ⟨p4, 0, none⟩), .int .i64 0], .pointer (some ⟨p, 0, none⟩), .pointer (some ⟨p, 0, none⟩), vh, .tuple #[.pointer (some ⟨p4, 0, none⟩), .int .i64 0], .pointer (some ⟨p4, 0, none⟩), .int .i64 0, .int .i64 0, .bool false, .bool false, .pointer (some ⟨p4, 0, none⟩), .pointer (some ⟨p, 0, none⟩), .bool true, .bool false, .bool false, .slice (some ⟨pb, po, none⟩) al_.length ac_, .int .i64 (al_.length : Int), .int .i64 ((i + 1 : Nat) : Int), .bool true, .pointer (some ⟨pb, po + i * 32, none⟩), .agg (bytesA 32 h.f), .pointer (some ⟨p, 0, none⟩), .agg (bytesA 32 h.f), .int .i64 nv, .bool false, fi 72, fi 73, fi 74, fi 75, fi 76, fi 77, fi 78, fi 79, fi 80, fi 81, fi 82, fi 83, .int .i64 ((i + 1 : Nat) : Int), undef, undef, undef, undef, undef, undef, undef, undef, undef, undef, undef, undef, undef, undef, undef, undef, undef, undef, undef, undef, undef, undef, undef, undef, undef, undef, undef, undef, undef, undef, undef, undef, undef, undef, undef, undef, undef, undef, undef, undef, undef, undef, undef, undef, undef, undef, undef, undef, undef, undef, undef, undef, undef, undef, undef, undef, undef, undef, undef, undef, undef, undef, undef, undef, undef, undef, undef, undef, undef, undef, undef, undef, undef, undef, undef, undef, undef, undef, undef, undef, undef, undef, undef, undef, undef].getD zz undef, rfl, by omega, IBe.out, fun k hk => ?_⟩, by simp [intOf]; omega⟩
   rw [List.take_succ_eq_append_getElem hil, List.mem_append, List.mem_singleton] at hk
   rcases hk with hk | rfl
   ·exact IM.out k hk
   ·rw [← hh.out]
    refine ixH_lt.1 (Classical.byContradiction fun hc => ?_)
    have := hnv.out
    rw [numV, if_neg hc] at this
    omega
 ·have hie : i = al_.length := by omega
  have MA : Keep (∀ g ∈ al_, g ∈ idsE (exs H)) := ⟨fun g hg => IM.out g (by rw [hie, List.take_length]; exact hg)⟩
  refine wp_seq_k fun K19 hK19 => rgn ?_
  refine VbF ?_
  refine WL.nil (hK19 _ _ ?_)
  refine wp_seq_k fun K20 hK20 => ?_
  refine wp_cond_false rfl ?_
  refine wp_exit ?_
  refine hK10 _ _ ?_
  refine wp_seq_k fun K21 hK21 => rgn ?_
  refine VlS (.pointer (some ⟨p, 0, none⟩)) ?_
  refine VlS (.slice aa al_.length ac_) ?_
  refine WL.callF (by kernel_rfl) 23 _ _ rfl Tryz.in23 #[.pointer (some ⟨p, 0, none⟩), .slice aa al_.length ac_] (by simp [Act.eval]) ?_
  refine (his_at (HP.out.below IB.out) _ al_ (HA.out.below (B2.out.trans (IB.out.mono B2.out.size))) HAl.out).mono ?_
  rintro e w6 ⟨hb, ⟨⟨g, hg, hgn⟩, -⟩ | ⟨-, q, KK, R, x, mc, uc, rfl, hK, hE⟩⟩
  ·exact absurd (MA.out g hg) hgn
  refine ⟨_, rfl, ?_⟩
  have C6 := Keep.mk (belowC IB.out hb)
  have PT : Keep (PrtAt w6 p q H KK S R v x mb ub mc uc (rch (exs H) (S.map (·.2)) al_)) := ⟨⟨HP.out.below C6.out, hK, hE, rch_cl HP.out.hst MA.out⟩⟩
  clear hb hK hE IM IB
  simp only [Act.put, pqA, pqB, pqC]
  refine VlS (.tuple #[.pointer (some ⟨q, 0, none⟩), .int .i64 0]) ?_
  refine VlS (.pointer (some ⟨q, 0, none⟩)) ?_
  refine VlS (.int .i64 0) ?_
  refine VlS (.pointer (some ⟨q, 0, none⟩)) ?_
  refine VlS (.int .i64 0) ?_
  refine WL.nil (hK21 _ _ ?_)
  refine wp_seq_k fun K22 hK22 => ?_
  refine wp_seq_k fun K23 hK23 => rgn ?_
  refine VlS (.int .i64 0) ?_
  refine VbF ?_
  refine VbF ?_
  refine VlS (.pointer (some ⟨q, 0, none⟩)) ?_
  refine VbF ?_
  refine VbF ?_
  refine VbF ?_
  refine VlS (.pointer (some ⟨p, 0, none⟩)) ?_
  refine VlS (.pointer (some ⟨q, 0, none⟩)) ?_
  refine VlS (.slice aa al_.length ac_) ?_
  refine WL.callF (by kernel_rfl) 25 _ _ rfl Tryz.in25 #[.pointer (some ⟨p, 0, none⟩), .pointer (some ⟨q, 0, none⟩), .slice aa al_.length ac_] (by simp [Act.eval]) ?_
  refine (part_law p q H KK S R v x mb ub mc uc _ w6 PT.out _ al_ (HA.out.below (B2.out.trans (C6.out.mono B2.out.size))) HAl.out (fun g hg => by rw [PT.out.ex]; exact (prt_mem HP.out.hst.nd).2 ⟨MA.out g hg, rch_self HP.out.hst hg (MA.out g hg)⟩)).mono ?_
  rintro e w7 ⟨rfl, hb⟩
  refine ⟨_, rfl, ?_⟩
  have C7 := Keep.mk (belowC C6.out hb)
  have PT7 := Keep.mk (PT.out.below hb)
  clear hb PT
  simp only [Act.put, pqA, pqB, pqC]
  refine VbF ?_
  refine VbF ?_
  refine WL.nil (hK23 _ _ ?_)
  refine wp_cond_false rfl ?_
  refine wp_skip ?_
  refine hK22 _ _ ?_
  refine wp_seq_k fun K24 hK24 => ?_
  refine wp_seq_k fun K25 hK25 => rgn ?_
  refine VlS (.pointer (some ⟨q, 0, none⟩)) ?_
  refine WL.callF (by kernel_rfl) 18 _ _ rfl Tryz.in18 #[.pointer (some ⟨q, 0, none⟩)] (by simp [Act.eval]) ?_
  refine (plen_any KK R x q mc uc w7 PT7.out.q.rd).mono ?_
  rintro e wq ⟨rfl, hwq⟩
  refine ⟨_, rfl, ?_⟩
  rw [hwq]
  clear hwq
  simp only [Act.put, pqA, pqB, pqC]
  refine VlS (.int .i64 0) ?_
  refine WL.nil (hK25 _ _ ?_)
  refine wp_block ?_
  refine wp_loop (fun ac wr => ∃ (t : Nat) (f : Nat → Value), ac = { tmps := #[.slice sa L.length sc, .slice aa al_.length ac_, .slice ba bs.length bc, undef, undef, undef, .bool false, .pointer (some ⟨p, 0, none⟩), .int .i64 0, .int .i64 0, .pointer (some ⟨p4, 0, none⟩), .int .i64 0, undef, fi 13, fi 14, fi 15, .pointer (some ⟨q, 0, none⟩), .int .i64 0, f 18, f 19, f 20, f 21, undef, f 23, undef, undef, undef, .bool true, .bool false, .tuple #[.pointer (some ⟨p, 0, none⟩), .int .i64 0, .int .i64 0], .slice sa L.length sc, .tuple #[.pointer (some ⟨p, 0, none⟩), .int .i64 0, .int .i64 0], .pointer (some ⟨p, 0, none⟩), .int .i64 0, .int .i64 0, .int .i64 0, .bool false, .bool false, .pointer (some ⟨p, 0, none⟩), .bool false, .bool false, undef, undef, undef, undef, undef, undef, .tuple #[.pointer (some ⟨p4, 0, none⟩), .int .i64 0], .pointer (some ⟨p, 0, none⟩), .pointer (some ⟨p, 0, none⟩), vh, .tuple #[.pointer (some ⟨p4, 0, none⟩), .int .i64 0], .pointer (some ⟨p4, 0, none⟩), .int .i64 0, .int .i64 0, .bool false, .bool false, .pointer (some ⟨p4, 0, none⟩), .pointer (some ⟨p, 0, none⟩), .bool true, .bool false, .bool false, .slice aa al_.length ac_, .int .i64 (al_.length : Int), .int .i64 (i : Int), .bool false, fi 66, fi 67, fi 68, fi 69, fi 70, fi 71, fi 72, fi 73, fi 74, fi 75, fi 76, fi 77, fi 78, fi 79, fi 80, fi 81, fi 82, fi 83, fi 84, .tuple #[.pointer (some ⟨q, 0, none⟩), .int .i64 0], .pointer (some ⟨p, 0, none⟩), .slice aa al_.length ac_, .tuple #[.pointer (some ⟨q, 0, none⟩), .int .i64 0], .pointer (some ⟨q, 0, none⟩), .int .i64 0, .int .i64 0, .bool false, .bool false, .pointer (some ⟨q, 0, none⟩), .bool false, .bool false, .bool false, .pointer (some ⟨p, 0, none⟩), .pointer (some ⟨q, 0, none⟩), .slice aa al_.length ac_, .bool true, .bool false, .bool false, .pointer (some ⟨q, 0, none⟩), .int .i64 (KK.length : Int), .int .i64 (t : Int), f 107, f 108, f 109, f 110, f 111, f 112, f 113, f 114, f 115, f 116, f 117, f 118, f 119, f 120, f 121, f 122, f 123, f 124, f 125, f 126, f 127, f 128, f 129, f 130, f 131, f 132, f 133, f 134, f 135, f 136, f 137, f 138, f 139, f 140, f 141, f 142, undef, undef, undef, undef, undef, undef, undef, undef, undef, undef, undef, undef, undef, undef, undef, undef, undef, undef, undef, undef, undef, undef, undef, undef, undef, undef, undef], defers := [] } ∧ t ≤ KK.length ∧ Below w7.heap.size w7 wr) (fun a _ => KK.length - (intOf (a.tmps.getD 106 undef)).toNat) ⟨0, fun zz => [.slice sa L.length sc, .slice aa al_.length ac_, .slice ba bs.length bc, undef, undef, undef, .bool false, .pointer (some ⟨p, 0, none⟩), .int .i64 0, .int .i64 0, .pointer (some ⟨p4, 0, none⟩), .int .i64 0, undef, fi 13, fi 14, fi 15, .pointer (some ⟨q, 0, none⟩), .int .i64 0, undef, undef, undef, undef, undef, undef, undef, undef, undef, .bool true, .bool false, .tuple #[.pointer (some ⟨p, 0, none⟩), .int .i64 0, .int .i64 0], .slice sa L.length sc, .tuple #[.pointer (some ⟨p, 0, none⟩), .int .i64 0, .int .i64 0], .pointer (some ⟨p, 0, none⟩), .int .i64 0, .int .i64 0, .int .i64 0, .bool false, .bool false, .pointer (some ⟨p, 0, none⟩), .bool false, .bool false, undef, undef, undef, undef, undef, undef, .tuple #[.pointer (some ⟨p4, 0, none⟩), .int .i64 0], .pointer (some ⟨p, 0, none⟩), .pointer (some ⟨p, 0, none⟩), vh, .tuple #[.pointer (some ⟨p4, 0, none⟩), .int .i64 0], .pointer (some ⟨p4, 0, none⟩), .int .i64 0, .int .i64 0, .bool false, .bool false, .pointer (some ⟨p4, 0, none⟩), .pointer (some ⟨p, 0, none⟩), .bool true, .bool false, .bool false, .slice aa al_.length ac_, .int .i64 (al_.length : Int), .int .i64 (i : Int), .bool false, fi 66, fi 67, fi 68, fi 69, fi 70, fi 71, fi 72, fi 73, fi 74, fi 75, fi 76, fi 77, fi 78, fi 79, fi 80, fi 81, fi 82, fi 83, fi 84, .tuple #[.pointer (some ⟨q, 0, none⟩), .int .i64 0], .pointer (some ⟨p, 0, none⟩), .slice aa al_.length ac_, .tuple #[.pointer (some ⟨q, 0, none⟩), .int .i64 0], .pointer (some ⟨q, 0, none⟩), .int .i64 0, .int .i64 0, .bool false, .bool false, .pointer (some ⟨q, 0, none⟩), .bool false, .bool false, .bool false, .pointer (some ⟨p, 0, none⟩), .pointer (some ⟨q, 0, none⟩), .slice aa al_.length ac_, .bool true, .bool false, .bool false, .pointer (some ⟨q, 0, none⟩), .int .i64 (KK.length : Int), .int .i64 0, undef, undef, undef, undef, undef, undef, undef, undef, undef, undef, undef, undef, undef, undef, undef, undef, undef, undef, undef, undef, undef, undef, undef, undef, undef, undef, undef, undef, undef, undef, undef, undef, undef, undef, undef, undef, undef, undef, undef, undef, undef, undef, undef, undef, undef, undef, undef, undef, undef, undef, undef, undef, undef, undef, undef, undef, undef, undef, undef, undef, undef, undef, undef].getD zz undef, rfl, by omega, Below.refl _ _⟩ ?_
  rintro ac wr ⟨t, f, rfl, ht, hB3⟩
  have JB := Keep.mk hB3
  clear hB3
  have JP := Keep.mk (PT7.out.below JB.out)
  by_cases htl : t < KK.length
  ·have htl' : (t : Int) < (KK.length : Int) := by omega
   have hwt : IntKind.i64.wrap ((t : Int) + 1) = ((t + 1 : Nat) : Int) := by rw [IntKind.wrap_i64]; have := PT7.out.q.rd.n; omega
   have htq : t < (pos (exs H) (rch (exs H) (S.map (·.2)) al_)).length := by rw [← PT7.out.len]; exact htl
   obtain ⟨n, hn⟩ : ∃ n, Keep ((pos (exs H) (rch (exs H) (S.map (·.2)) al_))[t] = n) := ⟨_, ⟨rfl⟩⟩
   obtain ⟨hnl, hxy, hnum⟩ := PT7.out.ent htl hn.out
   have hrn : Keep (rch (exs H) (S.map (·.2)) al_ n = true) := ⟨by rw [← hn.out]; exact (pos_in htq).2⟩
   obtain ⟨xi, hxi⟩ : ∃ x : Hs, Keep (KK[t].1.id = x) := ⟨_, ⟨rfl⟩⟩
   have hxm : Keep (xi ∈ idsE (exs H)) := ⟨by rw [← hxi.out, hxy]; exact List.mem_map.2 ⟨H[n].1, List.mem_map.2 ⟨H[n], List.getElem_mem hnl, rfl⟩, rfl⟩⟩
   rw [hxi.out] at hnum
   have hix : Keep (ixH (idsE (exs H)) xi = n) := ⟨by rw [numV, if_pos (ixH_lt.2 hxm.out)] at hnum; omega⟩
   have HNum := Keep.mk hnum
   clear hxy hnum
   refine wp_seq_k fun K26 hK26 => rgn ?_
   refine VbT ?_
   refine WL.nil (hK26 _ _ ?_)
   refine wp_seq_k fun K27 hK27 => ?_
   refine wp_cond_true rfl ?_
   refine wp_skip ?_
   refine hK27 _ _ ?_
   refine wp_seq_k fun K28 hK28 => ?_
   refine wp_block ?_
   refine wp_seq_k fun K29 hK29 => rgn ?_
   refine VlS (.int .i64 (t : Int)) ?_
   refine VlS (.int .i64 (t : Int)) ?_
   refine WL.nil (hK29 _ _ ?_)
   refine wp_seq_k fun K30 hK30 => rgn ?_
   refine VlS (.pointer (some ⟨q, 0, none⟩)) ?_
   refine VlS (.int .i64 (t : Int)) ?_
   refine WL.callF (by kernel_rfl) 19 _ _ rfl Tryz.in19 #[.pointer (some ⟨q, 0, none⟩), .int .i64 (t : Int)] (by simp [Act.eval]) ?_
   refine (entry_yes KK R x q mc uc wr JP.out.q.rd t htl).mono ?_
   rintro e wa ⟨p1, q1, rfl, hF⟩
   refine ⟨_, rfl, ?_⟩
   have FA := Keep.mk hF
   have JBa := Keep.mk (belowC JB.out hF.bel)
   clear hF
   obtain ⟨ea, hea⟩ : ∃ a : Array Value, Keep (a = entA KK[t].1.id.f KK[t].1.N.au KK[t].1.N.ck p1 q1) := ⟨_, ⟨rfl⟩⟩
   rw [← hea.out]
   simp only [Act.put, pqA, pqB, pqC]
   refine VlS (.tuple #[.agg ea, .int .i64 0]) ?_
   refine VlS (.agg ea) ?_
   refine VlS (.int .i64 0) ?_
   refine WL.new (by kernel_rfl) 52 rfl (entA (fun _ => 0) 0 0 (.slice none 0 0) (.slice none 0 0)) Tryz.new52 ?_
   obtain ⟨wb, hwn⟩ : ∃ wx, Keep (wx = wa.alloc (.cells (entA (fun _ => 0) 0 0 (.slice none 0 0) (.slice none 0 0)) 52)) := ⟨_, ⟨rfl⟩⟩
   rw [← hwn.out]
   have HZ6 : Keep (Blk wb wa.heap.size 52 (entA (fun _ => 0) 0 0 (.slice none 0 0) (.slice none 0 0))) := ⟨by rw [hwn.out]; exact Blk.new _ _ _⟩
   have LB6 : Keep (Below wa.heap.size wa wb) := ⟨by rw [hwn.out]; exact below_new _ _⟩
   clear hwn
   simp only [Act.put, pqA, pqB, pqC]
   refine WL.storeR (by kernel_rfl) 52 (.tmp 19) (.tmp 113) rfl wa.heap.size ea rfl rfl 52 _ HZ6.out (by rw [hea.out]; exact sizeE _ _ _ _ _) (by rw [hea.out, entA_size, entA_size]) (by rw [hea.out]; exact entA_one _ _ _ _ _ (by obtain ⟨a, c, e⟩ := FA.out.nd.ps.form; rw [e]; rfl) (by obtain ⟨a, c, e⟩ := FA.out.nd.ops.form; rw [e]; rfl)) ?_
   have HE := Keep.mk (HZ6.out.setRow ea)
   have LXga : Keep (Below wa.heap.size wa (wb.setRow wa.heap.size ea)) := ⟨below_setRow LB6.out (Nat.le_refl _) _⟩
   generalize wb.setRow wa.heap.size ea = wc at *
   have JBc := Keep.mk (belowC JBa.out LXga.out)
   generalize wa.heap.size = ga at *
   have HEr : Keep (wc.rangeAt ga 0 (bytesA 32 xi.f).toList ∧ ga < wc.heap.size) := ⟨by have h := blk_range HE.out; rw [hea.out, hxi.out] at h; exact ent_range_id h, HE.out.lt⟩
   clear LXga HZ6 LB6 HE FA
   simp only [Act.put]
   refine VlS (.int .i64 0) ?_
   refine WL.nil (hK30 _ _ ?_)
   refine wp_seq_k fun K31 hK31 => rgn ?_
   refine VbF ?_
   refine WL.nil (hK31 _ _ ?_)
   refine wp_seq_k fun K32 hK32 => ?_
   refine wp_seq_k fun K33 hK33 => rgn ?_
   refine VlS (.slice aa al_.length ac_) ?_
   refine VlS (.int .i64 (al_.length : Int)) ?_
   refine VlS (.int .i64 0) ?_
   refine WL.nil (hK33 _ _ ?_)
   refine wp_block ?_
   refine wp_loop (fun ac ws => ∃ (j : Nat) (fj : Nat → Value), ac = { tmps := #[.slice sa L.length sc, .slice aa al_.length ac_, .slice ba bs.length bc, undef, undef, undef, .bool false, .pointer (some ⟨p, 0, none⟩), .int .i64 0, .int .i64 0, .pointer (some ⟨p4, 0, none⟩), .int .i64 0, undef, fi 13, fi 14, fi 15, .pointer (some ⟨q, 0, none⟩), .int .i64 0, .int .i64 (t : Int), .pointer (some ⟨ga, 0, none⟩), .int .i64 0, .bool ((al_.take j).any (seenB H S xi n)), undef, fj 23, undef, undef, undef, .bool true, .bool false, .tuple #[.pointer (some ⟨p, 0, none⟩), .int .i64 0, .int .i64 0], .slice sa L.length sc, .tuple #[.pointer (some ⟨p, 0, none⟩), .int .i64 0, .int .i64 0], .pointer (some ⟨p, 0, none⟩), .int .i64 0, .int .i64 0, .int .i64 0, .bool false, .bool false, .pointer (some ⟨p, 0, none⟩), .bool false, .bool false, undef, undef, undef, undef, undef, undef, .tuple #[.pointer (some ⟨p4, 0, none⟩), .int .i64 0], .pointer (some ⟨p, 0, none⟩), .pointer (some ⟨p, 0, none⟩), vh, .tuple #[.pointer (some ⟨p4, 0, none⟩), .int .i64 0], .pointer (some ⟨p4, 0, none⟩), .int .i64 0, .int .i64 0, .bool false, .bool false, .pointer (some ⟨p4, 0, none⟩), .pointer (some ⟨p, 0, none⟩), .bool true, .bool false, .bool false, .slice aa al_.length ac_, .int .i64 (al_.length : Int), .int .i64 (i : Int), .bool false, fi 66, fi 67, fi 68, fi 69, fi 70, fi 71, fi 72, fi 73, fi 74, fi 75, fi 76, fi 77, fi 78, fi 79, fi 80, fi 81, fi 82, fi 83, fi 84, .tuple #[.pointer (some ⟨q, 0, none⟩), .int .i64 0], .pointer (some ⟨p, 0, none⟩), .slice aa al_.length ac_, .tuple #[.pointer (some ⟨q, 0, none⟩), .int .i64 0], .pointer (some ⟨q, 0, none⟩), .int .i64 0, .int .i64 0, .bool false, .bool false, .pointer (some ⟨q, 0, none⟩), .bool false, .bool false, .bool false, .pointer (some ⟨p, 0, none⟩), .pointer (some ⟨q, 0, none⟩), .slice aa al_.length ac_, .bool true, .bool false, .bool false, .pointer (some ⟨q, 0, none⟩), .int .i64 (KK.length : Int), .int .i64 (t : Int), .bool true, .int .i64 (t : Int), .tuple #[.agg ea, .int .i64 0], .pointer (some ⟨q, 0, none⟩), .int .i64 (t : Int), .tuple #[.agg ea, .int .i64 0], .agg ea, .int .i64 0, .slice aa al_.length ac_, .int .i64 (al_.length : Int), .int .i64 (j : Int), fj 118, fj 119, fj 120, fj 121, fj 122, fj 123, fj 124, fj 125, fj 126, fj 127, fj 128, fj 129, fj 130, fj 131, fj 132, fj 133, fj 134, fj 135, fj 136, fj 137, fj 138, fj 139, f 140, f 141, f 142, undef, undef, undef, undef, undef, undef, undef, undef, undef, undef, undef, undef, undef, undef, undef, undef, undef, undef, undef, undef, undef, undef, undef, undef, undef, undef, undef], defers := [] } ∧ j ≤ al_.length ∧ Below wc.heap.size wc ws) (fun a _ => al_.length - (intOf (a.tmps.getD 117 undef)).toNat) ⟨0, fun zz => [.slice sa L.length sc, .slice aa al_.length ac_, .slice ba bs.length bc, undef, undef, undef, .bool false, .pointer (some ⟨p, 0, none⟩), .int .i64 0, .int .i64 0, .pointer (some ⟨p4, 0, none⟩), .int .i64 0, undef, fi 13, fi 14, fi 15, .pointer (some ⟨q, 0, none⟩), .int .i64 0, .int .i64 (t : Int), .pointer (some ⟨ga, 0, none⟩), .int .i64 0, .bool false, undef, f 23, undef, undef, undef, .bool true, .bool false, .tuple #[.pointer (some ⟨p, 0, none⟩), .int .i64 0, .int .i64 0], .slice sa L.length sc, .tuple #[.pointer (some ⟨p, 0, none⟩), .int .i64 0, .int .i64 0], .pointer (some ⟨p, 0, none⟩), .int .i64 0, .int .i64 0, .int .i64 0, .bool false, .bool false, .pointer (some ⟨p, 0, none⟩), .bool false, .bool false, undef, undef, undef, undef, undef, undef, .tuple #[.pointer (some ⟨p4, 0, none⟩), .int .i64 0], .pointer (some ⟨p, 0, none⟩), .pointer (some ⟨p, 0, none⟩), vh, .tuple #[.pointer (some ⟨p4, 0, none⟩), .int .i64 0], .pointer (some ⟨p4, 0, none⟩), .int .i64 0, .int .i64 0, .bool false, .bool false, .pointer (some ⟨p4, 0, none⟩), .pointer (some ⟨p, 0, none⟩), .bool true, .bool false, .bool false, .slice aa al_.length ac_, .int .i64 (al_.length : Int), .int .i64 (i : Int), .bool false, fi 66, fi 67, fi 68, fi 69, fi 70, fi 71, fi 72, fi 73, fi 74, fi 75, fi 76, fi 77, fi 78, fi 79, fi 80, fi 81, fi 82, fi 83, fi 84, .tuple #[.pointer (some ⟨q, 0, none⟩), .int .i64 0], .pointer (some ⟨p, 0, none⟩), .slice aa al_.length ac_, .tuple #[.pointer (some ⟨q, 0, none⟩), .int .i64 0], .pointer (some ⟨q, 0, none⟩), .int .i64 0, .int .i64 0, .bool false, .bool false, .pointer (some ⟨q, 0, none⟩), .bool false, .bool false, .bool false, .pointer (some ⟨p, 0, none⟩), .pointer (some ⟨q, 0, none⟩), .slice aa al_.length ac_, .bool true, .bool false, .bool false, .pointer (some ⟨q, 0, none⟩), .int .i64 (KK.length : Int), .int .i64 (t : Int), .bool true, .int .i64 (t : Int), .tuple #[.agg ea, .int .i64 0], .pointer (some ⟨q, 0, none⟩), .int .i64 (t : Int), .tuple #[.agg ea, .int .i64 0], .agg ea, .int .i64 0, .slice aa al_.length ac_, .int .i64 (al_.length : Int), .int .i64 0, f 118, f 119, f 120, f 121, f 122, f 123, f 124, f 125, f 126, f 127, f 128, f 129, f 130, f 131, f 132, f 133, f 134, f 135, f 136, f 137, f 138, f 139, f 140, f 141, f 142, undef, undef, undef, undef, undef, undef, undef, undef, undef, undef, undef, undef, undef, undef, undef, undef, undef, undef, undef, undef, undef, undef, undef, undef, undef, undef, undef].getD zz undef, rfl, by omega, Below.refl _ _⟩ ?_
   rintro ac ws ⟨j, fj, rfl, hj, hB4⟩
   have IB := Keep.mk hB4
   clear hB4
   obtain ⟨sn, hsn⟩ : ∃ b, Keep ((al_.take j).any (seenB H S xi n) = b) := ⟨_, ⟨rfl⟩⟩
   rw [hsn.out]
   by_cases hjl : j < al_.length
   ·have hjl' : (j : Int) < (al_.length : Int) := by omega
    have hj0 : (0 : Int) ≤ (j : Int) := by omega
    have hwj : IntKind.i64.wrap ((j : Int) + 1) = ((j + 1 : Nat) : Int) := by rw [IntKind.wrap_i64]; have := HAl.out; omega
    have BB : Keep (Below w.heap.size w ws) := ⟨B2.out.trans (((C7.out.trans (JBc.out.mono C7.out.size)).trans (IB.out.mono (Nat.le_trans C7.out.size JBc.out.size))).mono B2.out.size)⟩
    obtain ⟨pb, po, hpa, hpr⟩ := hrow_at (HA.out.below BB.out) hjl
    subst hpa
    obtain ⟨h, hh⟩ : ∃ h : Hs, Keep (h = al_[j]) := ⟨_, ⟨rfl⟩⟩
    rw [← hh.out] at hpr
    have HPr := Keep.mk hpr
    clear hpr
    have hhm : Keep (h ∈ idsE (exs H)) := ⟨MA.out h (by rw [hh.out]; exact List.getElem_mem hjl)⟩
    obtain ⟨m, hm⟩ : ∃ m, Keep (ixH (idsE (exs H)) h = m) := ⟨_, ⟨rfl⟩⟩
    have hml : m < H.length := by have := ix_lt hhm.out; rw [exs_len, hm.out] at this; exact this
    have hnh : Keep (numV (idsE (exs H)) h = (m : Int)) := ⟨num_of hm.out (by rw [idsE_len, exs_len]; exact hml)⟩
    have hstep : Keep ((al_.take (j + 1)).any (seenB H S xi n) = (sn || (decide (h = xi) || seesW S n m))) := ⟨by rw [takeB_any _ _ _ hjl, hsn.out, ← hh.out, seenB, hm.out]⟩
    have hPw : Keep (PastRd ws p H S v mb ub) := ⟨(PT7.out.p.rd.below JBc.out).below IB.out⟩
    refine wp_seq_k fun K34 hK34 => rgn ?_
    refine VbT ?_
    refine WL.nil (hK34 _ _ ?_)
    refine wp_seq_k fun K35 hK35 => ?_
    refine wp_cond_true rfl ?_
    refine wp_skip ?_
    refine hK35 _ _ ?_
    refine wp_seq_k fun K36 hK36 => ?_
    refine wp_block ?_
    refine wp_seq_k fun K37 hK37 => rgn ?_
    refine VlS (.pointer (some ⟨pb, po + j * 32, none⟩)) ?_
    refine WL.midA (by kernel_rfl) 36 (.tmp 119) rfl pb (po + j * 32) rfl (bytesA 32 h.f) _ HPr.out Tryz.underlying36 rfl (size36E _) ?_
    simp only [Act.put, pqA, pqB, pqC]
    refine WL.new (by kernel_rfl) 36 rfl (bytesA 32 fun _ => 0) Tryz.new36 ?_
    obtain ⟨wt, hwn⟩ : ∃ wx, Keep (wx = ws.alloc (.cells (bytesA 32 fun _ => 0) 36)) := ⟨_, ⟨rfl⟩⟩
    rw [← hwn.out]
    have HZ2 : Keep (Blk wt ws.heap.size 36 (bytesA 32 fun _ => 0)) := ⟨by rw [hwn.out]; exact Blk.new _ _ _⟩
    have LB2 : Keep (Below ws.heap.size ws wt) := ⟨by rw [hwn.out]; exact below_new _ _⟩
    clear hwn
    simp only [Act.put, pqA, pqB, pqC]
    refine WL.storeR (by kernel_rfl) 36 (.tmp 23) (.tmp 120) rfl ws.heap.size (bytesA 32 h.f) rfl rfl 36 _ HZ2.out (size36E _) (by rw [bytesA_size, bytesA_size]) (bytesA_one _ _) ?_
    have HH2 := Keep.mk (HZ2.out.setRow (bytesA 32 h.f))
    have LH : Keep (Below ws.heap.size ws (wt.setRow ws.heap.size (bytesA 32 h.f))) := ⟨below_setRow LB2.out (Nat.le_refl _) _⟩
    generalize wt.setRow ws.heap.size (bytesA 32 h.f) = wu at *
    clear HZ2 LB2
    have IBu := Keep.mk (belowC IB.out LH.out)
    have hPu := Keep.mk (hPw.out.below LH.out)
    generalize ws.heap.size = g3 at *
    clear LH HPr
    simp only [Act.put]
    refine WL.nil (hK37 _ _ ?_)
    have hSS : Keep (∀ wz, Below wu.heap.size wu wz → (fun wz => wz.rangeAt g3 0 (bytesA 32 h.f).toList ∧ wz.rangeAt ga 0 (bytesA 32 xi.f).toList) wz) := ⟨fun wz hb => ⟨range_below (blk_range HH2.out) hb HH2.out.lt, range_below (range_below HEr.out.1 IBu.out HEr.out.2) hb (Nat.lt_of_lt_of_le HEr.out.2 IBu.out.size)⟩⟩
    have hB0 : Keep (Below wu.heap.size wu wu.drew) := ⟨(Below.refl _ _).drew⟩
    cases sn
    ·by_cases hhx : h = xi
     ·have HX := Keep.mk hhx
      clear hhx
      have hval : Keep ((al_.take (j + 1)).any (seenB H S xi n) = true) := ⟨by rw [hstep.out, decide_eq_true HX.out]; rfl⟩
      refine wp_region_held_drew (S := fun wz => wz.rangeAt g3 0 (bytesA 32 h.f).toList ∧ wz.rangeAt ga 0 (bytesA 32 xi.f).toList) (by kernel_rfl) (hSS.out _ hB0.out) (fun hHeld => ?_)
      refine TkC (i := 0) (oi := ⟨some 121, Op.move (Operand.tmp 21), 4, _, _, none⟩) (v := .bool false) rfl hHeld ?_
      refine TkC (i := 1) (oi := ⟨some 122, Op.move (Operand.tmp 121), 4, _, _, none⟩) (v := .bool false) rfl hHeld ?_
      refine tkS (i := 2) (oi := ⟨some 123, Op.load 36 (Operand.tmp 23), 36, _, _, some (1, false)⟩) (v := .agg (bytesA 32 h.f)) rfl (yieldsIf_ld (by rfl) (Operand.tmp 23) 36 rfl g3 0 rfl (bytesA 32 h.f) _ Tryz.underlying36 rfl (size36E _) fun w hS => hS.1) hHeld ?_
      refine TkC (i := 3) (oi := ⟨some 124, Op.fieldAddr 52 (Operand.tmp 19) 0, 0, _, _, some (1, false)⟩) (v := .pointer (some ⟨ga, 0, none⟩)) rfl hHeld ?_
      refine tkS (i := 4) (oi := ⟨some 125, Op.load 36 (Operand.tmp 124), 36, _, _, some (1, false)⟩) (v := .agg (bytesA 32 xi.f)) rfl (yieldsIf_ld (by rfl) (Operand.tmp 124) 36 rfl ga 0 rfl (bytesA 32 xi.f) _ Tryz.underlying36 rfl (size36E _) fun w hS => hS.2) hHeld ?_
      refine tkS (i := 5) (oi := ⟨some 126, Op.binOp BinOp.eql 36 (Operand.tmp 123) (Operand.tmp 125) 36, 4, _, _, some (1, false)⟩) (v := .bool true) rfl (Or.inl ⟨by rfl, fun w hS => by clear hS; go_simp; rw [run_equal_arr2, all_eq_iff, decide_eq_true HX.out]; rfl⟩) hHeld ?_
      refine TkC (i := 6) (oi := ⟨some 127, Op.pick (Operand.tmp 122) (Operand.const (Value.bool true)) (Operand.tmp 126), 4, _, _, none⟩) (v := .bool true) rfl hHeld ?_
      refine TkC (i := 7) (oi := ⟨some 128, Op.move (Operand.tmp 127), 4, _, _, none⟩) (v := .bool true) rfl hHeld ?_
      refine tkS (i := 8) (oi := ⟨some 129, Op.move (Operand.tmp 7), 25, _, _, some (7, false)⟩) (v := undef) rfl (Or.inr ⟨by rfl, rfl⟩) hHeld ?_
      refine tkS (i := 9) (oi := ⟨some 130, Op.move (Operand.tmp 7), 25, _, _, some (7, false)⟩) (v := undef) rfl (Or.inr ⟨by rfl, rfl⟩) hHeld ?_
      refine tkS (i := 10) (oi := ⟨some 131, Op.fieldAddr 52 (Operand.tmp 19) 0, 0, _, _, some (7, false)⟩) (v := undef) rfl (Or.inr ⟨by rfl, rfl⟩) hHeld ?_
      refine tkS (i := 11) (oi := ⟨some 132, Op.load 36 (Operand.tmp 131), 36, _, _, some (7, false)⟩) (v := undef) rfl (Or.inr ⟨by rfl, rfl⟩) hHeld ?_
      refine tkS (i := 12) (oi := ⟨some 133, Op.call { callee := Callee.value (Operand.func 13), args := #[Operand.tmp 130, Operand.tmp 132], argTypes := #[25, 36] }, 3, _, _, some (7, false)⟩) (v := undef) rfl (Or.inr ⟨by rfl, rfl⟩) hHeld ?_
      refine tkS (i := 13) (oi := ⟨some 134, Op.move (Operand.tmp 7), 25, _, _, some (7, false)⟩) (v := undef) rfl (Or.inr ⟨by rfl, rfl⟩) hHeld ?_
      refine tkS (i := 14) (oi := ⟨some 135, Op.load 36 (Operand.tmp 23), 36, _, _, some (7, false)⟩) (v := undef) rfl (Or.inr ⟨by rfl, rfl⟩) hHeld ?_
      refine tkS (i := 15) (oi := ⟨some 136, Op.call { callee := Callee.value (Operand.func 13), args := #[Operand.tmp 134, Operand.tmp 135], argTypes := #[25, 36] }, 3, _, _, some (7, false)⟩) (v := undef) rfl (Or.inr ⟨by rfl, rfl⟩) hHeld ?_
      refine tkS (i := 16) (oi := ⟨some 137, Op.call { callee := Callee.value (Operand.func 26), args := #[Operand.tmp 129, Operand.tmp 133, Operand.tmp 136], argTypes := #[25, 3, 3] }, 4, _, _, some (7, false)⟩) (v := undef) rfl (Or.inr ⟨by rfl, rfl⟩) hHeld ?_
      refine TkC (i := 17) (oi := ⟨some 138, Op.pick (Operand.tmp 128) (Operand.const (Value.bool true)) (Operand.tmp 137), 4, _, _, none⟩) (v := .bool true) rfl hHeld ?_
      refine TkC (i := 18) (oi := ⟨some 21, Op.assign (Operand.tmp 138), 4, _, _, none⟩) (v := .bool true) rfl hHeld ?_
      refine wpAnyH_done (by kernel_rfl) ?_ _
      refine hK36 _ _ ?_
      refine rgn ?_
      refine VlS (.int .i64 ((j + 1 : Nat) : Int)) ?_
      refine VlS (.int .i64 ((j + 1 : Nat) : Int)) ?_
      refine WL.nil ?_
      refine ⟨⟨j + 1, fun zz => [.slice sa L.length sc, .slice (some ⟨pb, po, none⟩) al_.length ac_, .slice ba bs.length bc, undef, undef, undef, .bool false, .pointer (some ⟨p, 0, none⟩), .int .i64 0, .int .i64 0, .pointer (some ⟨p4, 0, none⟩), .int .i64 0, undef, fi 13, fi 14, fi 15, .pointer (some ⟨q, 0, none⟩), .int .i64 0, .int .i64 (t : Int), .pointer (some ⟨ga, 0, none⟩), .int .i64 0, .bool true, undef, .pointer (some ⟨g3, 0, none⟩), undef, undef, undef, .bool true, .bool false, .tuple #[.pointer (some ⟨p, 0, none⟩), .int .i64 0, .int .i64 0], .slice sa L.length sc, .tuple #[.pointer (some ⟨p, 0, none⟩), .int .i64 0, .int .i64 0], .pointer (some ⟨p, 0, none⟩), .int .i64 0, .int .i64 0, .int .i64 0, .bool false, .bool false, .pointer (some ⟨p, 0, none⟩), .bool false, .bool false, undef, undef, undef, undef, undef, undef, .tuple #[.pointer (some ⟨p4, 0, none⟩), .int .i64 0], .pointer (some ⟨p, 0, none⟩), .pointer (some ⟨p, 0, none⟩), vh, .tuple #[.pointer (some ⟨p4, 0, none⟩), .int .i64 0], .pointer (some ⟨p4, 0, none⟩), .int .i64 0, .int .i64 0, .bool false, .bool false, .pointer (some ⟨p4, 0, none⟩), .pointer (some ⟨p, 0, none⟩), .bool true, .bool false, .bool false, .slice (some ⟨pb, po, none⟩) al_.length ac_, .int .i64 (al_.length : Int), .int .i64 (i : Int), .bool false, fi 66, fi 67, fi 68, fi 69, fi 70, fi 71, fi 72, fi 73, fi 74, fi 75, fi 76, fi 77, fi 78, fi 79, fi 80, fi 81, fi 82, fi 83, fi 84, .tuple #[.pointer (some ⟨q, 0, none⟩), .int .i64 0], .pointer (some ⟨p, 0, none⟩), .slice (some ⟨pb, po, none⟩) al_.length ac_, .tuple #[.pointer (some ⟨q, 0, none⟩), .int .i64 0], .pointer (some ⟨q, 0, none⟩), .int .i64 0, .int .i64 0, .bool false, .bool false, .pointer (some ⟨q, 0, none⟩), .bool false, .bool false, .bool false, .pointer (some ⟨p, 0, none⟩), .pointer (some ⟨q, 0, none⟩), .slice (some ⟨pb, po, none⟩) al_.length ac_, .bool true, .bool false, .bool false, .pointer (some ⟨q, 0, none⟩), .int .i64 (KK.length : Int), .int .i64 (t : Int), .bool true, .int .i64 (t : Int), .tuple #[.agg ea, .int .i64 0], .pointer (some ⟨q, 0, none⟩), .int .i64 (t : Int), .tuple #[.agg ea, .int .i64 0], .agg ea, .int .i64 0, .slice (some ⟨pb, po, none⟩) al_.length ac_, .int .i64 (al_.length : Int), .int .i64 ((j + 1 : Nat) : Int), .bool true, .pointer (some ⟨pb, po + j * 32, none⟩), .agg (bytesA 32 h.f), .bool false, .bool false, .agg (bytesA 32 h.f), .pointer (some ⟨ga, 0, none⟩), .agg (bytesA 32 xi.f), .bool true, .bool true, .bool true, undef, undef, undef, undef, undef, undef, undef, undef, undef, .bool true, .int .i64 ((j + 1 : Nat) : Int), f 140, f 141, f 142, undef, undef, undef, undef, undef, undef, undef, undef, undef, undef, undef, undef, undef, undef, undef, undef, undef, undef, undef, undef, undef, undef, undef, undef, undef, undef, undef].getD zz undef, by first | (rw [hval.out]; done) | (rw [hval.out]; rfl), by omega, belowC IBu.out hB0.out⟩, by simp [intOf]; omega⟩
     ·have HX := Keep.mk hhx
      clear hhx
      obtain ⟨sw, hsw⟩ : ∃ b, Keep (seesW S n m = b) := ⟨_, ⟨rfl⟩⟩
      have hval : Keep ((al_.take (j + 1)).any (seenB H S xi n) = sw) := ⟨by rw [hstep.out, decide_eq_false HX.out, hsw.out]; rfl⟩
      refine wp_region_held_drew (S := fun wz => wz.rangeAt g3 0 (bytesA 32 h.f).toList ∧ wz.rangeAt ga 0 (bytesA 32 xi.f).toList) (by kernel_rfl) (hSS.out _ hB0.out) (fun hHeld => ?_)
      refine TkC (i := 0) (oi := ⟨some 121, Op.move (Operand.tmp 21), 4, _, _, none⟩) (v := .bool false) rfl hHeld ?_
      refine TkC (i := 1) (oi := ⟨some 122, Op.move (Operand.tmp 121), 4, _, _, none⟩) (v := .bool false) rfl hHeld ?_
      refine tkS (i := 2) (oi := ⟨some 123, Op.load 36 (Operand.tmp 23), 36, _, _, some (1, false)⟩) (v := .agg (bytesA 32 h.f)) rfl (yieldsIf_ld (by rfl) (Operand.tmp 23) 36 rfl g3 0 rfl (bytesA 32 h.f) _ Tryz.underlying36 rfl (size36E _) fun w hS => hS.1) hHeld ?_
      refine TkC (i := 3) (oi := ⟨some 124, Op.fieldAddr 52 (Operand.tmp 19) 0, 0, _, _, some (1, false)⟩) (v := .pointer (some ⟨ga, 0, none⟩)) rfl hHeld ?_
      refine tkS (i := 4) (oi := ⟨some 125, Op.load 36 (Operand.tmp 124), 36, _, _, some (1, false)⟩) (v := .agg (bytesA 32 xi.f)) rfl (yieldsIf_ld (by rfl) (Operand.tmp 124) 36 rfl ga 0 rfl (bytesA 32 xi.f) _ Tryz.underlying36 rfl (size36E _) fun w hS => hS.2) hHeld ?_
      refine tkS (i := 5) (oi := ⟨some 126, Op.binOp BinOp.eql 36 (Operand.tmp 123) (Operand.tmp 125) 36, 4, _, _, some (1, false)⟩) (v := .bool false) rfl (Or.inl ⟨by rfl, fun w hS => by clear hS; go_simp; rw [run_equal_arr2, all_eq_iff, decide_eq_false HX.out]; rfl⟩) hHeld ?_
      refine TkC (i := 6) (oi := ⟨some 127, Op.pick (Operand.tmp 122) (Operand.const (Value.bool true)) (Operand.tmp 126), 4, _, _, none⟩) (v := .bool false) rfl hHeld ?_
      refine TkC (i := 7) (oi := ⟨some 128, Op.move (Operand.tmp 127), 4, _, _, none⟩) (v := .bool false) rfl hHeld ?_
      refine TkC (i := 8) (oi := ⟨some 129, Op.move (Operand.tmp 7), 25, _, _, some (7, false)⟩) (v := .pointer (some ⟨p, 0, none⟩)) rfl hHeld ?_
      refine TkC (i := 9) (oi := ⟨some 130, Op.move (Operand.tmp 7), 25, _, _, some (7, false)⟩) (v := .pointer (some ⟨p, 0, none⟩)) rfl hHeld ?_
      refine TkC (i := 10) (oi := ⟨some 131, Op.fieldAddr 52 (Operand.tmp 19) 0, 0, _, _, some (7, false)⟩) (v := .pointer (some ⟨ga, 0, none⟩)) rfl hHeld ?_
      refine tkS (i := 11) (oi := ⟨some 132, Op.load 36 (Operand.tmp 131), 36, _, _, some (7, false)⟩) (v := .agg (bytesA 32 xi.f)) rfl (yieldsIf_ld (by rfl) (Operand.tmp 131) 36 rfl ga 0 rfl (bytesA 32 xi.f) _ Tryz.underlying36 rfl (size36E _) fun w hS => hS.2) hHeld ?_
      refine TkC (i := 13) (oi := ⟨some 134, Op.move (Operand.tmp 7), 25, _, _, some (7, false)⟩) (v := .pointer (some ⟨p, 0, none⟩)) rfl hHeld ?_
      refine tkS (i := 14) (oi := ⟨some 135, Op.load 36 (Operand.tmp 23), 36, _, _, some (7, false)⟩) (v := .agg (bytesA 32 h.f)) rfl (yieldsIf_ld (by rfl) (Operand.tmp 23) 36 rfl g3 0 rfl (bytesA 32 h.f) _ Tryz.underlying36 rfl (size36E _) fun w hS => hS.1) hHeld ?_
      refine wpAnyH_ready (rs := [12]) (by kernel_rfl) (by simp) ?_
      refine AllReadyH.cons (o := ⟨some 133, Op.call { callee := Callee.value (Operand.func 13), args := #[Operand.tmp 130, Operand.tmp 132], argTypes := #[25, 36] }, 3, _, _, some (7, false)⟩) rfl (fun K hK => ?_) AllReadyH.nil
      rw [if_pos (by rfl)]
      refine wp_callF 13 _ _ rfl Tryz.in13 #[.pointer (some ⟨p, 0, none⟩), .agg (bytesA 32 xi.f)] (by simp [Act.eval]) (fun uu w' => uu = .int .i64 (n : Int) ∧ Below wu.drew.heap.size wu.drew w') ((number_any H S v p mb ub wu.drew (hPu.out.below hB0.out) xi).mono fun e w' h => ⟨_, h.1, by rw [HNum.out], h.2⟩) ?_
      rintro _ wz1 ⟨rfl, hbt⟩
      have hB1 : Keep (Below wu.heap.size wu wz1) := ⟨belowC hB0.out hbt⟩
      refine hK _ _ (hSS.out _ hB1.out) fun hR1 => ?_
      clear hK hbt
      simp only [Act.put, pqA, pqB, pqC]
      refine wpAnyH_ready (rs := [15]) (by kernel_rfl) (by simp) ?_
      refine AllReadyH.cons (o := ⟨some 136, Op.call { callee := Callee.value (Operand.func 13), args := #[Operand.tmp 134, Operand.tmp 135], argTypes := #[25, 36] }, 3, _, _, some (7, false)⟩) rfl (fun K hK => ?_) AllReadyH.nil
      rw [if_pos (by rfl)]
      refine wp_callF 13 _ _ rfl Tryz.in13 #[.pointer (some ⟨p, 0, none⟩), .agg (bytesA 32 h.f)] (by simp [Act.eval]) (fun uu w' => uu = .int .i64 (m : Int) ∧ Below wz1.heap.size wz1 w') ((number_any H S v p mb ub wz1 (hPu.out.below hB1.out) h).mono fun e w' h => ⟨_, h.1, by rw [hnh.out], h.2⟩) ?_
      rintro _ wz2 ⟨rfl, hbt⟩
      have hB2 : Keep (Below wu.heap.size wu wz2) := ⟨belowC hB1.out hbt⟩
      refine hK _ _ (hSS.out _ hB2.out) fun hR2 => ?_
      clear hK hbt
      simp only [Act.put, pqA, pqB, pqC]
      refine wpAnyH_ready (rs := [16]) (by kernel_rfl) (by simp) ?_
      refine AllReadyH.cons (o := ⟨some 137, Op.call { callee := Callee.value (Operand.func 26), args := #[Operand.tmp 129, Operand.tmp 133, Operand.tmp 136], argTypes := #[25, 3, 3] }, 4, _, _, some (7, false)⟩) rfl (fun K hK => ?_) AllReadyH.nil
      rw [if_pos (by rfl)]
      refine wp_callF 26 _ _ rfl Tryz.in26 #[.pointer (some ⟨p, 0, none⟩), .int .i64 (n : Int), .int .i64 (m : Int)] (by simp [Act.eval]) (fun uu w' => uu = .bool sw ∧ w' = wz2) ((sees_nat H S v p mb ub wz2 (hPu.out.below hB2.out) n m hnl hml).mono fun e w' h => ⟨_, h.1, by rw [hsw.out], h.2⟩) ?_
      rintro _ _ ⟨rfl, rfl⟩
      refine hK _ _ (hSS.out _ hB2.out) fun hH3 => ?_
      clear hK
      simp only [Act.put, pqA, pqB, pqC]
      refine TkC (i := 17) (oi := ⟨some 138, Op.pick (Operand.tmp 128) (Operand.const (Value.bool true)) (Operand.tmp 137), 4, _, _, none⟩) (v := .bool sw) rfl hH3 ?_
      refine TkC (i := 18) (oi := ⟨some 21, Op.assign (Operand.tmp 138), 4, _, _, none⟩) (v := .bool sw) rfl hH3 ?_
      refine wpAnyH_done (by kernel_rfl) ?_ _
      refine hK36 _ _ ?_
      refine rgn ?_
      refine VlS (.int .i64 ((j + 1 : Nat) : Int)) ?_
      refine VlS (.int .i64 ((j + 1 : Nat) : Int)) ?_
      refine WL.nil ?_
      refine ⟨⟨j + 1, fun zz => [.slice sa L.length sc, .slice (some ⟨pb, po, none⟩) al_.length ac_, .slice ba bs.length bc, undef, undef, undef, .bool false, .pointer (some ⟨p, 0, none⟩), .int .i64 0, .int .i64 0, .pointer (some ⟨p4, 0, none⟩), .int .i64 0, undef, fi 13, fi 14, fi 15, .pointer (some ⟨q, 0, none⟩), .int .i64 0, .int .i64 (t : Int), .pointer (some ⟨ga, 0, none⟩), .int .i64 0, .bool sw, undef, .pointer (some ⟨g3, 0, none⟩), undef, undef, undef, .bool true, .bool false, .tuple #[.pointer (some ⟨p, 0, none⟩), .int .i64 0, .int .i64 0], .slice sa L.length sc, .tuple #[.pointer (some ⟨p, 0, none⟩), .int .i64 0, .int .i64 0], .pointer (some ⟨p, 0, none⟩), .int .i64 0, .int .i64 0, .int .i64 0, .bool false, .bool false, .pointer (some ⟨p, 0, none⟩), .bool false, .bool false, undef, undef, undef, undef, undef, undef, .tuple #[.pointer (some ⟨p4, 0, none⟩), .int .i64 0], .pointer (some ⟨p, 0, none⟩), .pointer (some ⟨p, 0, none⟩), vh, .tuple #[.pointer (some ⟨p4, 0, none⟩), .int .i64 0], .pointer (some ⟨p4, 0, none⟩), .int .i64 0, .int .i64 0, .bool false, .bool false, .pointer (some ⟨p4, 0, none⟩), .pointer (some ⟨p, 0, none⟩), .bool true, .bool false, .bool false, .slice (some ⟨pb, po, none⟩) al_.length ac_, .int .i64 (al_.length : Int), .int .i64 (i : Int), .bool false, fi 66, fi 67, fi 68, fi 69, fi 70, fi 71, fi 72, fi 73, fi 74, fi 75, fi 76, fi 77, fi 78, fi 79, fi 80, fi 81, fi 82, fi 83, fi 84, .tuple #[.pointer (some ⟨q, 0, none⟩), .int .i64 0], .pointer (some ⟨p, 0, none⟩), .slice (some ⟨pb, po, none⟩) al_.length ac_, .tuple #[.pointer (some ⟨q, 0, none⟩), .int .i64 0], .pointer (some ⟨q, 0, none⟩), .int .i64 0, .int .i64 0, .bool false, .bool false, .pointer (some ⟨q, 0, none⟩), .bool false, .bool false, .bool false, .pointer (some ⟨p, 0, none⟩), .pointer (some ⟨q, 0, none⟩), .slice (some ⟨pb, po, none⟩) al_.length ac_, .bool true, .bool false, .bool false, .pointer (some ⟨q, 0, none⟩), .int .i64 (KK.length : Int), .int .i64 (t : Int), .bool true, .int .i64 (t : Int), .tuple #[.agg ea, .int .i64 0], .pointer (some ⟨q, 0, none⟩), .int .i64 (t : Int), .tuple #[.agg ea, .int .i64 0], .agg ea, .int .i64 0, .slice (some ⟨pb, po, none⟩) al_.length ac_, .int .i64 (al_.length : Int), .int .i64 ((j + 1 : Nat) : Int), .bool true, .pointer (some ⟨pb, po + j * 32, none⟩), .agg (bytesA 32 h.f), .bool false, .bool false, .agg (bytesA 32 h.f), .pointer (some ⟨ga, 0, none⟩), .agg (bytesA 32 xi.f), .bool false, .bool false, .bool false, .pointer (some ⟨p, 0, none⟩), .pointer (some ⟨p, 0, none⟩), .pointer (some ⟨ga, 0, none⟩), .agg (bytesA 32 xi.f), .int .i64 (n : Int), .pointer (some ⟨p, 0, none⟩), .agg (bytesA 32 h.f), .int .i64 (m : Int), .bool sw, .bool sw, .int .i64 ((j + 1 : Nat) : Int), f 140, f 141, f 142, undef, undef, undef, undef, undef, undef, undef, undef, undef, undef, undef, undef, undef, undef, undef, undef, undef, undef, undef, undef, undef, undef, undef, undef, undef, undef, undef].getD zz undef, by first | (rw [hval.out]; done) | (rw [hval.out]; rfl), by omega, belowC IBu.out hB2.out⟩, by simp [intOf]; omega⟩
    ·have hval : Keep ((al_.take (j + 1)).any (seenB H S xi n) = true) := ⟨by rw [hstep.out]; rfl⟩
     refine wp_region_held_drew (S := fun wz => wz.rangeAt g3 0 (bytesA 32 h.f).toList ∧ wz.rangeAt ga 0 (bytesA 32 xi.f).toList) (by kernel_rfl) (hSS.out _ hB0.out) (fun hHeld => ?_)
     refine TkC (i := 0) (oi := ⟨some 121, Op.move (Operand.tmp 21), 4, _, _, none⟩) (v := .bool true) rfl hHeld ?_
     refine TkC (i := 1) (oi := ⟨some 122, Op.move (Operand.tmp 121), 4, _, _, none⟩) (v := .bool true) rfl hHeld ?_
     refine tkS (i := 2) (oi := ⟨some 123, Op.load 36 (Operand.tmp 23), 36, _, _, some (1, false)⟩) (v := undef) rfl (Or.inr ⟨by rfl, rfl⟩) hHeld ?_
     refine tkS (i := 3) (oi := ⟨some 124, Op.fieldAddr 52 (Operand.tmp 19) 0, 0, _, _, some (1, false)⟩) (v := undef) rfl (Or.inr ⟨by rfl, rfl⟩) hHeld ?_
     refine tkS (i := 4) (oi := ⟨some 125, Op.load 36 (Operand.tmp 124), 36, _, _, some (1, false)⟩) (v := undef) rfl (Or.inr ⟨by rfl, rfl⟩) hHeld ?_
     refine tkS (i := 5) (oi := ⟨some 126, Op.binOp BinOp.eql 36 (Operand.tmp 123) (Operand.tmp 125) 36, 4, _, _, some (1, false)⟩) (v := undef) rfl (Or.inr ⟨by rfl, rfl⟩) hHeld ?_
     refine TkC (i := 6) (oi := ⟨some 127, Op.pick (Operand.tmp 122) (Operand.const (Value.bool true)) (Operand.tmp 126), 4, _, _, none⟩) (v := .bool true) rfl hHeld ?_
     refine TkC (i := 7) (oi := ⟨some 128, Op.move (Operand.tmp 127), 4, _, _, none⟩) (v := .bool true) rfl hHeld ?_
     refine tkS (i := 8) (oi := ⟨some 129, Op.move (Operand.tmp 7), 25, _, _, some (7, false)⟩) (v := undef) rfl (Or.inr ⟨by rfl, rfl⟩) hHeld ?_
     refine tkS (i := 9) (oi := ⟨some 130, Op.move (Operand.tmp 7), 25, _, _, some (7, false)⟩) (v := undef) rfl (Or.inr ⟨by rfl, rfl⟩) hHeld ?_
     refine tkS (i := 10) (oi := ⟨some 131, Op.fieldAddr 52 (Operand.tmp 19) 0, 0, _, _, some (7, false)⟩) (v := undef) rfl (Or.inr ⟨by rfl, rfl⟩) hHeld ?_
     refine tkS (i := 11) (oi := ⟨some 132, Op.load 36 (Operand.tmp 131), 36, _, _, some (7, false)⟩) (v := undef) rfl (Or.inr ⟨by rfl, rfl⟩) hHeld ?_
     refine tkS (i := 12) (oi := ⟨some 133, Op.call { callee := Callee.value (Operand.func 13), args := #[Operand.tmp 130, Operand.tmp 132], argTypes := #[25, 36] }, 3, _, _, some (7, false)⟩) (v := undef) rfl (Or.inr ⟨by rfl, rfl⟩) hHeld ?_
     refine tkS (i := 13) (oi := ⟨some 134, Op.move (Operand.tmp 7), 25, _, _, some (7, false)⟩) (v := undef) rfl (Or.inr ⟨by rfl, rfl⟩) hHeld ?_
     refine tkS (i := 14) (oi := ⟨some 135, Op.load 36 (Operand.tmp 23), 36, _, _, some (7, false)⟩) (v := undef) rfl (Or.inr ⟨by rfl, rfl⟩) hHeld ?_
     refine tkS (i := 15) (oi := ⟨some 136, Op.call { callee := Callee.value (Operand.func 13), args := #[Operand.tmp 134, Operand.tmp 135], argTypes := #[25, 36] }, 3, _, _, some (7, false)⟩) (v := undef) rfl (Or.inr ⟨by rfl, rfl⟩) hHeld ?_
     refine tkS (i := 16) (oi := ⟨some 137, Op.call { callee := Callee.value (Operand.func 26), args := #[Operand.tmp 129, Operand.tmp 133, Operand.tmp 136], argTypes := #[25, 3, 3] }, 4, _, _, some (7, false)⟩) (v := undef) rfl (Or.inr ⟨by rfl, rfl⟩) hHeld ?_
     refine TkC (i := 17) (oi := ⟨some 138, Op.pick (Operand.tmp 128) (Operand.const (Value.bool true)) (Operand.tmp 137), 4, _, _, none⟩) (v := .bool true) rfl hHeld ?_
     refine TkC (i := 18) (oi := ⟨some 21, Op.assign (Operand.tmp 138), 4, _, _, none⟩) (v := .bool true) rfl hHeld ?_
     refine wpAnyH_done (by kernel_rfl) ?_ _
     refine hK36 _ _ ?_
     refine rgn ?_
     refine VlS (.int .i64 ((j + 1 : Nat) : Int)) ?_
     refine VlS (.int .i64 ((j + 1 : Nat) : Int)) ?_
     refine WL.nil ?_
     refine ⟨⟨j + 1, fun zz => [.slice sa L.length sc, .slice (some ⟨pb, po, none⟩) al_.length ac_, .slice ba bs.length bc, undef, undef, undef, .bool false, .pointer (some ⟨p, 0, none⟩), .int .i64 0, .int .i64 0, .pointer (some ⟨p4, 0, none⟩), .int .i64 0, undef, fi 13, fi 14, fi 15, .pointer (some ⟨q, 0, none⟩), .int .i64 0, .int .i64 (t : Int), .pointer (some ⟨ga, 0, none⟩), .int .i64 0, .bool true, undef, .pointer (some ⟨g3, 0, none⟩), undef, undef, undef, .bool true, .bool false, .tuple #[.pointer (some ⟨p, 0, none⟩), .int .i64 0, .int .i64 0], .slice sa L.length sc, .tuple #[.pointer (some ⟨p, 0, none⟩), .int .i64 0, .int .i64 0], .pointer (some ⟨p, 0, none⟩), .int .i64 0, .int .i64 0, .int .i64 0, .bool false, .bool false, .pointer (some ⟨p, 0, none⟩), .bool false, .bool false, undef, undef, undef, undef, undef, undef, .tuple #[.pointer (some ⟨p4, 0, none⟩), .int .i64 0], .pointer (some ⟨p, 0, none⟩), .pointer (some ⟨p, 0, none⟩), vh, .tuple #[.pointer (some ⟨p4, 0, none⟩), .int .i64 0], .pointer (some ⟨p4, 0, none⟩), .int .i64 0, .int .i64 0, .bool false, .bool false, .pointer (some ⟨p4, 0, none⟩), .pointer (some ⟨p, 0, none⟩), .bool true, .bool false, .bool false, .slice (some ⟨pb, po, none⟩) al_.length ac_, .int .i64 (al_.length : Int), .int .i64 (i : Int), .bool false, fi 66, fi 67, fi 68, fi 69, fi 70, fi 71, fi 72, fi 73, fi 74, fi 75, fi 76, fi 77, fi 78, fi 79, fi 80, fi 81, fi 82, fi 83, fi 84, .tuple #[.pointer (some ⟨q, 0, none⟩), .int .i64 0], .pointer (some ⟨p, 0, none⟩), .slice (some ⟨pb, po, none⟩) al_.length ac_, .tuple #[.pointer (some ⟨q, 0, none⟩), .int .i64 0], .pointer (some ⟨q, 0, none⟩), .int .i64 0, .int .i64 0, .bool false, .bool false, .pointer (some ⟨q, 0, none⟩), .bool false, .bool false, .bool false, .pointer (some ⟨p, 0, none⟩), .pointer (some ⟨q, 0, none⟩), .slice (some ⟨pb, po, none⟩) al_.length ac_, .bool true, .bool false, .bool false, .pointer (some ⟨q, 0, none⟩), .int .i64 (KK.length : Int), .int .i64 (t : Int), .bool true, .int .i64 (t : Int), .tuple #[.agg ea, .int .i64 0], .pointer (some ⟨q, 0, none⟩), .int .i64 (t : Int), .tuple #[.agg ea, .int .i64 0], .agg ea, .int .i64 0, .slice (some ⟨pb, po, none⟩) al_.length ac_, .int .i64 (al_.length : Int), .int .i64 ((j + 1 : Nat) : Int), .bool true, .pointer (some ⟨pb, po + j * 32, none⟩), .agg (bytesA 32 h.f), .bool true, .bool true, undef, undef, undef, undef, .bool true, .bool true, undef, undef, undef, undef, undef, undef, undef, undef, undef, .bool true, .int .i64 ((j + 1 : Nat) : Int), f 140, f 141, f 142, undef, undef, undef, undef, undef, undef, undef, undef, undef, undef, undef, undef, undef, undef, undef, undef, undef, undef, undef, undef, undef, undef, undef, undef, undef, undef, undef].getD zz undef, by first | (rw [hval.out]; done) | (rw [hval.out]; rfl), by omega, belowC IBu.out hB0.out⟩, by simp [intOf]; omega⟩
   ·have hje : j = al_.length := by omega
    have hsn1 : sn = true := by rw [← hsn.out, hje, List.take_length]; exact seen_all PT7.out.p.hst MA.out hxm.out hix.out hrn.out
    subst hsn1
    refine wp_seq_k fun K38 hK38 => rgn ?_
    refine VbF ?_
    refine WL.nil (hK38 _ _ ?_)
    refine wp_seq_k fun K39 hK39 => ?_
    refine wp_cond_false rfl ?_
    refine wp_exit ?_
    refine hK32 _ _ ?_
    refine wp_seq_k fun K40 hK40 => rgn ?_
    refine VbT ?_
    refine VbF ?_
    refine WL.nil (hK40 _ _ ?_)
    refine wp_cond_false rfl ?_
    refine wp_skip ?_
    refine hK28 _ _ ?_
    refine rgn ?_
    refine VlS (.int .i64 ((t + 1 : Nat) : Int)) ?_
    refine VlS (.int .i64 ((t + 1 : Nat) : Int)) ?_
    refine WL.nil ?_
    refine ⟨⟨t + 1, fun zz => [.slice sa L.length sc, .slice aa al_.length ac_, .slice ba bs.length bc, undef, undef, undef, .bool false, .pointer (some ⟨p, 0, none⟩), .int .i64 0, .int .i64 0, .pointer (some ⟨p4, 0, none⟩), .int .i64 0, undef, fi 13, fi 14, fi 15, .pointer (some ⟨q, 0, none⟩), .int .i64 0, .int .i64 (t : Int), .pointer (some ⟨ga, 0, none⟩), .int .i64 0, .bool true, undef, fj 23, undef, undef, undef, .bool true, .bool false, .tuple #[.pointer (some ⟨p, 0, none⟩), .int .i64 0, .int .i64 0], .slice sa L.length sc, .tuple #[.pointer (some ⟨p, 0, none⟩), .int .i64 0, .int .i64 0], .pointer (some ⟨p, 0, none⟩), .int .i64 0, .int .i64 0, .int .i64 0, .bool false, .bool false, .pointer (some ⟨p, 0, none⟩), .bool false, .bool false, undef, undef, undef, undef, undef, undef, .tuple #[.pointer (some ⟨p4, 0, none⟩), .int .i64 0], .pointer (some ⟨p, 0, none⟩), .pointer (some ⟨p, 0, none⟩), vh, .tuple #[.pointer (some ⟨p4, 0, none⟩), .int .i64 0], .pointer (some ⟨p4, 0, none⟩), .int .i64 0, .int .i64 0, .bool false, .bool false, .pointer (some ⟨p4, 0, none⟩), .pointer (some ⟨p, 0, none⟩), .bool true, .bool false, .bool false, .slice aa al_.length ac_, .int .i64 (al_.length : Int), .int .i64 (i : Int), .bool false, fi 66, fi 67, fi 68, fi 69, fi 70, fi 71, fi 72, fi 73, fi 74, fi 75, fi 76, fi 77, fi 78, fi 79, fi 80, fi 81, fi 82, fi 83, fi 84, .tuple #[.pointer (some ⟨q, 0, none⟩), .int .i64 0], .pointer (some ⟨p, 0, none⟩), .slice aa al_.length ac_, .tuple #[.pointer (some ⟨q, 0, none⟩), .int .i64 0], .pointer (some ⟨q, 0, none⟩), .int .i64 0, .int .i64 0, .bool false, .bool false, .pointer (some ⟨q, 0, none⟩), .bool false, .bool false, .bool false, .pointer (some ⟨p, 0, none⟩), .pointer (some ⟨q, 0, none⟩), .slice aa al_.length ac_, .bool true, .bool false, .bool false, .pointer (some ⟨q, 0, none⟩), .int .i64 (KK.length : Int), .int .i64 ((t + 1 : Nat) : Int), .bool true, .int .i64 (t : Int), .tuple #[.agg ea, .int .i64 0], .pointer (some ⟨q, 0, none⟩), .int .i64 (t : Int), .tuple #[.agg ea, .int .i64 0], .agg ea, .int .i64 0, .slice aa al_.length ac_, .int .i64 (al_.length : Int), .int .i64 (j : Int), .bool false, fj 119, fj 120, fj 121, fj 122, fj 123, fj 124, fj 125, fj 126, fj 127, fj 128, fj 129, fj 130, fj 131, fj 132, fj 133, fj 134, fj 135, fj 136, fj 137, fj 138, fj 139, .bool true, .bool false, .int .i64 ((t + 1 : Nat) : Int), undef, undef, undef, undef, undef, undef, undef, undef, undef, undef, undef, undef, undef, undef, undef, undef, undef, undef, undef, undef, undef, undef, undef, undef, undef, undef, undef].getD zz undef, rfl, by omega, belowC JBc.out IB.out⟩, by simp [intOf]; omega⟩
  ·have C8 : Keep (Below w2.heap.size w2 wr) := ⟨belowC C7.out JB.out⟩
   refine wp_seq_k fun K41 hK41 => rgn ?_
   refine VbF ?_
   refine WL.nil (hK41 _ _ ?_)
   refine wp_seq_k fun K42 hK42 => ?_
   refine wp_cond_false rfl ?_
   refine wp_exit ?_
   refine hK24 _ _ ?_
   refine wp_seq_k fun K43 hK43 => ?_
   have BB := Keep.mk (B2.out.trans (C8.out.mono B2.out.size))
   by_cases hbm : ∀ g ∈ bs, g ∈ idsE (exs KK)
   ·have hbH : Keep (∀ g ∈ bs, g ∈ idsE (exs H)) := ⟨fun g hg => by have := hbm g hg; rw [PT7.out.ex] at this; exact ((prt_mem HP.out.hst.nd).1 this).1⟩
    refine rgn ?_
    refine VlS (.pointer (some ⟨q, 0, none⟩)) ?_
    refine VlS (.slice ba bs.length bc) ?_
    refine WL.callF (by kernel_rfl) 23 _ _ rfl Tryz.in23 #[.pointer (some ⟨q, 0, none⟩), .slice ba bs.length bc] (by simp [Act.eval]) ?_
    refine (his_at JP.out.q _ bs (HB.out.below BB.out) HBl.out).mono ?_
    rintro e w9 ⟨hb, ⟨⟨g, hg, hgn⟩, -⟩ | ⟨-, r, K1_, R1_, x1, m1, u1_, rfl, hK, hE⟩⟩
    ·exact absurd (hbm g hg) hgn
    refine ⟨_, rfl, ?_⟩
    have C9 := Keep.mk (belowC C8.out hb)
    have HK1 := Keep.mk hK
    have HE1 := Keep.mk hE
    clear hb hK hE
    simp only [Act.put, pqA, pqB, pqC]
    refine VlS (.tuple #[.pointer (some ⟨r, 0, none⟩), .int .i64 0]) ?_
    refine VlS (.pointer (some ⟨r, 0, none⟩)) ?_
    refine VlS (.int .i64 0) ?_
    refine VlS (.pointer (some ⟨r, 0, none⟩)) ?_
    refine VlS (.int .i64 0) ?_
    refine WL.nil (hK43 _ _ ?_)
    refine wp_seq_k fun K44 hK44 => rgn ?_
    refine VlS (.pointer (some ⟨p, 0, none⟩)) ?_
    refine VlS (.slice ba bs.length bc) ?_
    refine WL.callF (by kernel_rfl) 23 _ _ rfl Tryz.in23 #[.pointer (some ⟨p, 0, none⟩), .slice ba bs.length bc] (by simp [Act.eval]) ?_
    refine (his_at (HP.out.below C9.out) _ bs (HB.out.below (B2.out.trans (C9.out.mono B2.out.size))) HBl.out).mono ?_
    rintro e wx ⟨hb, ⟨⟨g, hg, hgn⟩, -⟩ | ⟨-, s, K2_, R2_, x2, m2, u2_, rfl, hK, hE⟩⟩
    ·exact absurd (hbH.out g hg) hgn
    refine ⟨_, rfl, ?_⟩
    have CX := Keep.mk (belowC C9.out hb)
    have SX := Keep.mk (his_same (HK1.out.below hb) hK (by
     rw [HE1.out, hE]
     have h := at_at HP.out.hst (rch_cl HP.out.hst MA.out) (by rw [← PT7.out.ex]; exact PT7.out.q.hst) (hs := bs) (fun g hg => by rw [← PT7.out.ex]; exact hbm g hg)
     rw [← PT7.out.ex] at h
     exact h))
    clear hb hK hE
    simp only [Act.put, pqA, pqB, pqC]
    refine VlS (.tuple #[.pointer (some ⟨s, 0, none⟩), .int .i64 0]) ?_
    refine VlS (.pointer (some ⟨s, 0, none⟩)) ?_
    refine VlS (.int .i64 0) ?_
    refine VlS (.pointer (some ⟨s, 0, none⟩)) ?_
    refine VlS (.int .i64 0) ?_
    refine WL.nil (hK44 _ _ ?_)
    refine wp_seq_k fun K45 hK45 => ?_
    refine wp_seq_k fun K46 hK46 => rgn ?_
    refine VlS (.int .i64 0) ?_
    refine VbF ?_
    refine WL.nil (hK46 _ _ ?_)
    refine wp_cond_false rfl ?_
    refine wp_skip ?_
    refine hK45 _ _ ?_
    refine wp_seq_k fun K47 hK47 => rgn ?_
    refine VlS (.int .i64 0) ?_
    refine VbT ?_
    refine VbT ?_
    refine VlS (.pointer (some ⟨r, 0, none⟩)) ?_
    refine VlS (.pointer (some ⟨s, 0, none⟩)) ?_
    refine WL.callF (by kernel_rfl) 22 _ _ rfl Tryz.in22 #[.pointer (some ⟨r, 0, none⟩), .pointer (some ⟨s, 0, none⟩)] (by simp [Act.eval]) ?_
    refine (same_law r s K1_ K2_ R1_ R2_ x1 x2 m1 u1_ m2 u2_ wx SX.out).mono ?_
    rintro e wy ⟨rfl, hb⟩
    refine ⟨_, rfl, ?_⟩
    have CY := Keep.mk (belowC CX.out hb)
    clear hb SX
    simp only [Act.put, pqA, pqB, pqC]
    refine VbT ?_
    refine VbT ?_
    refine WL.nil (hK47 _ _ ?_)
    refine wp_ret ?_
    go_ret
    exact ⟨rfl, B2.out.trans (CY.out.mono B2.out.size)⟩
   ·refine rgn ?_
    refine VlS (.pointer (some ⟨q, 0, none⟩)) ?_
    refine VlS (.slice ba bs.length bc) ?_
    refine WL.callF (by kernel_rfl) 23 _ _ rfl Tryz.in23 #[.pointer (some ⟨q, 0, none⟩), .slice ba bs.length bc] (by simp [Act.eval]) ?_
    refine (his_at JP.out.q _ bs (HB.out.below BB.out) HBl.out).mono ?_
    rintro e w9 ⟨hb, ⟨-, rfl⟩ | ⟨hma, -⟩⟩
    rotate_left
    ·exact absurd hma hbm
    refine ⟨_, rfl, ?_⟩
    have C9 := Keep.mk (belowC C8.out hb)
    clear hb
    simp only [Act.put, pqA, pqB, pqC]
    refine VlS (.tuple #[.pointer none, .int .i64 6]) ?_
    refine VlS (.pointer none) ?_
    refine VlS (.int .i64 6) ?_
    refine VlS (.pointer none) ?_
    refine VlS (.int .i64 6) ?_
    refine WL.nil (hK43 _ _ ?_)
    refine wp_seq_k fun K48 hK48 => rgn ?_
    refine VlS (.pointer (some ⟨p, 0, none⟩)) ?_
    refine VlS (.slice ba bs.length bc) ?_
    refine WL.callF (by kernel_rfl) 23 _ _ rfl Tryz.in23 #[.pointer (some ⟨p, 0, none⟩), .slice ba bs.length bc] (by simp [Act.eval]) ?_
    refine (his_at (HP.out.below C9.out) _ bs (HB.out.below (B2.out.trans (C9.out.mono B2.out.size))) HBl.out).mono ?_
    rintro e wx ⟨hb, hor⟩
    have CX := Keep.mk (belowC C9.out hb)
    clear hb
    obtain ⟨ra, rb, hrr⟩ : ∃ a b, e = .returned (.tuple #[.pointer a, .int .i64 b]) := by rcases hor with ⟨-, h⟩ | ⟨-, s, _, _, _, _, _, h, -⟩ <;> exact ⟨_, _, h⟩
    subst hrr
    clear hor
    refine ⟨_, rfl, ?_⟩
    simp only [Act.put, pqA, pqB, pqC]
    refine VlS (.tuple #[.pointer ra, .int .i64 rb]) ?_
    refine VlS (.pointer ra) ?_
    refine VlS (.int .i64 rb) ?_
    refine VlS (.pointer ra) ?_
    refine VlS (.int .i64 rb) ?_
    refine WL.nil (hK48 _ _ ?_)
    refine wp_seq_k fun K49 hK49 => ?_
    refine wp_seq_k fun K50 hK50 => rgn ?_
    refine VlS (.int .i64 6) ?_
    refine VbT ?_
    refine WL.nil (hK50 _ _ ?_)
    refine wp_cond_true rfl ?_
    refine wp_seq_k fun K51 hK51 => rgn ?_
    refine VlS (.int .i64 6) ?_
    refine VbT ?_
    refine VbT ?_
    refine VlS (.pointer none) ?_
    refine VbT ?_
    refine VbT ?_
    refine VbT ?_
    refine WL.nil (hK51 _ _ ?_)
    refine wp_ret ?_
    go_ret
    exact ⟨rfl, B2.out.trans (CX.out.mono B2.out.size)⟩
set_option maxRecDepth 16000 in
set_option maxHeartbeats 4000000 in
theorem grows_any (v0 : Value) (L : List EP) (v1 : Value) (al_ : List Hs) (v2 : Value) (bs : List Hs) (w : World) (hs : ESl w v0 L) (hi : EIn w L) (ha : HRow w v1 al_) (hb : HRow w v2 bs) (hL : L.length ≤ 4398046511104) (hA : al_.length ≤ 4398046511104) (hB : bs.length ≤ 4398046511104) : Calls Tryz.prog 7 #[v0, v1, v2] w fun e w' => e = .returned (.bool true) ∧ Below w.heap.size w w' := by
 by_cases hok : ∀ i, i < L.length → al1 (exs L) i = 0
 rotate_left
 ·obtain ⟨sa, sc, rfl⟩ := hs.form
  obtain ⟨aa, ac_, rfl⟩ := ha.form
  obtain ⟨ba, bc, rfl⟩ := hb.form
  have HS := Keep.mk hs
  have HI := Keep.mk hi
  have HA := Keep.mk ha
  have HB := Keep.mk hb
  have HL := Keep.mk hL
  have HAl := Keep.mk hA
  have HBl := Keep.mk hB
  have hbad := hok
  clear hs hi ha hb hL hA hB
  go_enter Tryz.func7, Tryz.ntmps7
  refine wp_seq_k fun K1 hK1 => rgn ?_
  refine VbF ?_
  refine WL.nil (hK1 _ _ ?_)
  refine wp_seq_k fun K2 hK2 => ?_
  refine wp_seq_k fun K3 hK3 => rgn ?_
  refine WL.callF (by kernel_rfl) 9 _ _ rfl Tryz.in9 #[] (by simp) ?_
  refine (awake_any w).mono ?_
  rintro e w1 ⟨rfl, hb⟩
  refine ⟨_, rfl, ?_⟩
  have B1 := Keep.mk hb
  clear hb
  simp only [Act.put, pqA, pqB, pqC]
  refine VbF ?_
  refine WL.nil (hK3 _ _ ?_)
  refine wp_cond_false rfl ?_
  refine wp_skip ?_
  refine hK2 _ _ ?_
  refine wp_seq_k fun K4 hK4 => rgn ?_
  refine VlS (.slice sa L.length sc) ?_
  refine WL.callF (by kernel_rfl) 10 _ _ rfl Tryz.in10 #[.slice sa L.length sc] (by simp [Act.eval]) ?_
  refine (of_any _ L w1 (HS.out.below B1.out) (HI.out.below B1.out) HL.out).mono ?_
  rintro e w2 (⟨p, H, S, -, hP⟩ | ⟨hb, i, hi, -, hne, rfl⟩ | ⟨-, h, -⟩)
  ·exact absurd (fun i hi => hP.good.al i (by rw [exs_len]; exact hi)) hbad
  rotate_left
  ·exact absurd h hbad
  refine ⟨_, rfl, ?_⟩
  obtain ⟨c, hc⟩ : ∃ c, Keep (al1 (exs L) i = c) := ⟨_, ⟨rfl⟩⟩
  rw [hc.out]
  have hc0 : ¬ c = 0 := by rw [← hc.out]; exact hne
  simp only [Act.put, pqA, pqB, pqC]
  refine VlS (.tuple #[.pointer none, .int .i64 c, .int .i64 (i : Int)]) ?_
  refine VlS (.pointer none) ?_
  refine VlS (.int .i64 c) ?_
  refine VlS (.int .i64 (i : Int)) ?_
  refine VlS (.pointer none) ?_
  refine VlS (.int .i64 c) ?_
  refine VlS (.int .i64 (i : Int)) ?_
  refine WL.nil (hK4 _ _ ?_)
  refine wp_seq_k fun K5 hK5 => ?_
  refine wp_seq_k fun K6 hK6 => rgn ?_
  refine VlS (.int .i64 c) ?_
  refine VbT ?_
  refine VbT ?_
  refine SkS ?_
  refine SkS ?_
  refine VbT ?_
  refine WL.nil (hK6 _ _ ?_)
  refine wp_cond_true rfl ?_
  refine wp_seq_k fun K7 hK7 => rgn ?_
  refine VlS (.int .i64 c) ?_
  refine VbT ?_
  refine VbT ?_
  refine VlS (.pointer none) ?_
  refine VbT ?_
  refine VbT ?_
  refine VbT ?_
  refine WL.nil (hK7 _ _ ?_)
  refine wp_ret ?_
  go_ret
  exact ⟨rfl, belowC B1.out hb⟩
 by_cases hok2 : ∀ i, i < L.length → tg1 (exs L) i = 0
 rotate_left
 ·obtain ⟨sa, sc, rfl⟩ := hs.form
  obtain ⟨aa, ac_, rfl⟩ := ha.form
  obtain ⟨ba, bc, rfl⟩ := hb.form
  have HS := Keep.mk hs
  have HI := Keep.mk hi
  have HA := Keep.mk ha
  have HB := Keep.mk hb
  have HL := Keep.mk hL
  have HAl := Keep.mk hA
  have HBl := Keep.mk hB
  have hbad := hok2
  clear hs hi ha hb hL hA hB
  go_enter Tryz.func7, Tryz.ntmps7
  refine wp_seq_k fun K1 hK1 => rgn ?_
  refine VbF ?_
  refine WL.nil (hK1 _ _ ?_)
  refine wp_seq_k fun K2 hK2 => ?_
  refine wp_seq_k fun K3 hK3 => rgn ?_
  refine WL.callF (by kernel_rfl) 9 _ _ rfl Tryz.in9 #[] (by simp) ?_
  refine (awake_any w).mono ?_
  rintro e w1 ⟨rfl, hb⟩
  refine ⟨_, rfl, ?_⟩
  have B1 := Keep.mk hb
  clear hb
  simp only [Act.put, pqA, pqB, pqC]
  refine VbF ?_
  refine WL.nil (hK3 _ _ ?_)
  refine wp_cond_false rfl ?_
  refine wp_skip ?_
  refine hK2 _ _ ?_
  refine wp_seq_k fun K4 hK4 => rgn ?_
  refine VlS (.slice sa L.length sc) ?_
  refine WL.callF (by kernel_rfl) 10 _ _ rfl Tryz.in10 #[.slice sa L.length sc] (by simp [Act.eval]) ?_
  refine (of_any _ L w1 (HS.out.below B1.out) (HI.out.below B1.out) HL.out).mono ?_
  rintro e w2 (⟨p, H, S, -, hP⟩ | ⟨-, i, hi, -, hne, -⟩ | ⟨hb, -, i, hi, -, hne, rfl⟩)
  ·exact absurd (fun i hi => hP.good.tg i (by rw [exs_len]; exact hi)) hbad
  ·exact absurd (hok i hi) hne
  refine ⟨_, rfl, ?_⟩
  obtain ⟨c, hc⟩ : ∃ c, Keep (tg1 (exs L) i = c) := ⟨_, ⟨rfl⟩⟩
  rw [hc.out]
  have hc0 : ¬ c = 0 := by rw [← hc.out]; exact hne
  simp only [Act.put, pqA, pqB, pqC]
  refine VlS (.tuple #[.pointer none, .int .i64 c, .int .i64 (i : Int)]) ?_
  refine VlS (.pointer none) ?_
  refine VlS (.int .i64 c) ?_
  refine VlS (.int .i64 (i : Int)) ?_
  refine VlS (.pointer none) ?_
  refine VlS (.int .i64 c) ?_
  refine VlS (.int .i64 (i : Int)) ?_
  refine WL.nil (hK4 _ _ ?_)
  refine wp_seq_k fun K5 hK5 => ?_
  refine wp_seq_k fun K6 hK6 => rgn ?_
  refine VlS (.int .i64 c) ?_
  refine VbT ?_
  refine VbT ?_
  refine SkS ?_
  refine SkS ?_
  refine VbT ?_
  refine WL.nil (hK6 _ _ ?_)
  refine wp_cond_true rfl ?_
  refine wp_seq_k fun K7 hK7 => rgn ?_
  refine VlS (.int .i64 c) ?_
  refine VbT ?_
  refine VbT ?_
  refine VlS (.pointer none) ?_
  refine VbT ?_
  refine VbT ?_
  refine VbT ?_
  refine WL.nil (hK7 _ _ ?_)
  refine wp_ret ?_
  go_ret
  exact ⟨rfl, belowC B1.out hb⟩
 ·exact grows_good v0 L v1 al_ v2 bs w hs hi ha hb hL hA hB ⟨fun i hi => hok i (by rwa [exs_len] at hi), fun i hi => hok2 i (by rwa [exs_len] at hi)⟩
def q0 : EP := (dEX, .slice none 0 0, .slice none 0 0)
end Go.Proofs.YthlohkgdmfkpeaaGreat
namespace Go.Proofs.YthlohkgdmfkpeaaGreat
open Go.ChangeShapes Go.WideShapes Go.ChangeAt Go.RowKit Go.Deep
set_option linter.unusedSimpArgs false
set_option linter.unusedVariables false

theorem Tryz.cellsOf52 : Tryz.prog.cellsOf 52 = 36 := by kernel_rfl
theorem Tryz.bytesOf52 : Tryz.prog.bytesOf 52 = 96 := by kernel_rfl
theorem entry_of_trod {H : Type} {enc : TypeId × Value → H} {W : World} {sp : Nat → Bool} {held : Bool} {n base : Nat} {cs : List Value} {x : DataW H × List MemPlace} (hf : DataW.trod enc Tryz.prog W base sp held n 52 cs = some x) (hw : ∀ n ∈ x.1.weights Tryz.prog 52, n ≤ reachBytes) :
  ∃ q : EP, cs = encE q ∧ Nd.NdAt W q.1.N q.2.1 q.2.2 := by
 obtain ⟨y0, y1, k, hx, hl, h0, h1⟩ := Nd.trod_struct2 Tryz.underlying52 hf
 rw [Tryz.cellsOf52] at hl
 simp only [Nd.Tryz.cellsOf36, Nd.Tryz.cellsOf50, List.drop_zero] at h0 h1
 obtain ⟨h, eh⟩ := Nd.hashH_of_trod h0
 obtain ⟨N, vp, vo, e1, r1, r2, r3, r4, r5, r6, r7⟩ := Nd.node_of_trod h1 (fun n hn => hw n (by
  rw [hx]
  simp only [DataW.weights, Tryz.underlying52]
  exact DataW.weights_mem_each (j := 1) (t := 50) rfl rfl n hn))
 refine ⟨(⟨h, N⟩, vp, vo), ?_, ⟨r1, r3, r4, r2, r5, r3.blt, r6.1, r6.2, r7.1, r7.2⟩⟩
 have e2 : (cs.drop 32).take 4 = cs.drop 32 := List.take_of_length_le (by rw [List.length_drop]; omega)
 rw [← List.take_append_drop 32 cs, eh]
 rw [e2] at e1
 rw [e1]
 show _ = (entA h.f N.au N.ck vp vo).toList
 unfold entA
 rw [Array.toList_append]
 rfl
theorem ents_of_trod {H : Type} {enc : TypeId × Value → H} {W : World} {sp : Nat → Bool} {held : Bool} {fuel base : Nat} {v : Value} {x : DataW H × List MemPlace} (hf : DataW.trod enc Tryz.prog W base sp held fuel 23 [v] = some x) (hw : ∀ n ∈ x.1.weights Tryz.prog 23, n ≤ reachBytes) :
  ∃ L : List EP, ESl W v L ∧ EIn W L ∧ L.length ≤ 4398046511104 := by
 rcases open_slice Tryz.underlying23 hf with ⟨hcs, _⟩ | ⟨a, len, cap, m, n, D, Pl, hcs, _, hl_, hm, hz, hx, hcell⟩
 ·simp at hcs
  subst hcs
  exact ⟨[], .inl ⟨none, 0, rfl, rfl⟩, (fun q hq => by cases hq), by simp⟩
 ·simp at hcs
  subst hcs
  have hlz : len ≤ m := by rw [hz]; split <;> omega
  have hb : len ≤ 4398046511104 := by
   have h1 := hw ((((List.range len).map D).length + ((List.range (m - len)).map fun j => D (len + j)).length) * 96) (by
    rw [hx]
    simp only [DataW.weights, Tryz.underlying23]
    simp [Tryz.bytesOf52])
   rw [Nd.reach_is] at h1
   simp only [List.length_map, List.length_range] at h1
   omega
  have hwD : ∀ i, i < len → ∀ n ∈ (D i).weights Tryz.prog 52, n ≤ reachBytes := fun i hi n hn => hw n (by
   rw [hx]
   simp only [DataW.weights, Tryz.underlying23]
   refine List.mem_cons_of_mem _ (List.mem_append_left _ (Nd.mem_weightsAll (d := D i) ?_ n hn))
   exact List.mem_map.2 ⟨i, List.mem_range.2 hi, rfl⟩)
  have each : ∀ i, i < len → ∃ q : EP, (∀ j v, (encE q)[j]? = some v → W.cell? ((a.add (i * 36)).add j) = some v) ∧ Nd.NdAt W q.1.N q.2.1 q.2.2 := by
   intro i hi
   obtain ⟨cs', h1, h2⟩ := hcell i (by omega)
   rw [Tryz.cellsOf52] at h1
   obtain ⟨_, hlen, hce⟩ := World.cells?_some h1
   obtain ⟨q, hqe, hq2⟩ := entry_of_trod h2 (hwD i hi)
   clear h2
   refine ⟨q, fun j v hv => ?_, hq2⟩
   obtain ⟨hj, e⟩ := List.getElem?_eq_some_iff.1 hv
   rw [encE_len] at hj
   rw [hce j (by omega), hqe, ← hv]
  haveI : Inhabited EP := ⟨q0⟩
  obtain ⟨q, hq⟩ := Go.Deep.choose_lt each
  refine ⟨(List.range len).map q, ?_, fun u hu => ?_, by simpa using hb⟩
  ·by_cases h0 : len = 0
   ·subst h0
    exact .inl ⟨some a, cap, rfl, rfl⟩
   ·have hs : a.spot = none := by
     have hv0 : (encE (q 0))[0]? = some (.int .u8 ((q 0).1.id.f 0)) := by
      rw [encE, Array.getElem?_toList]
      simp [entA, Array.getElem?_append, bytesA_size, bytesA]
     have := (hq 0 (by omega)).1 0 _ hv0
     rw [Nat.zero_mul, show a.add 0 = a from rfl, show a.add 0 = a from rfl] at this
     exact World.cell?_spot this
    obtain ⟨b, off, sp⟩ := a
    obtain rfl : sp = none := hs
    refine .inr ⟨b, off, cap, by simp, by simp; omega, flat_of_elems encE_len fun i hi j v hv => ?_⟩
    have hi' : i < len := by simpa using hi
    have := (hq i hi').1 j v (by simpa using hv)
    simp only [Nd.add_none'] at this
    exact this
  ·obtain ⟨i, hi, rfl⟩ := List.mem_map.1 hu
   exact (hq i (List.mem_range.1 hi)).2
end Go.Proofs.YthlohkgdmfkpeaaGreat
