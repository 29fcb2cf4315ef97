import Derived.Test.YthlohkgdmfkpeaaGreatB16
namespace Go.Proofs.YthlohkgdmfkpeaaGreat
open Go.RowKit
set_option linter.unusedSimpArgs false
set_option linter.unusedVariables false

theorem Tryz.in25 (w : World) (vs : Array Value) : (callFunc 25 vs).run Tryz.prog w = .ok (.enter 25 vs) w := by kernel_rfl
def ivN (l : List Nat) : List Value := l.map fun (n : Nat) => .int .i64 (n : Int)
theorem ivN_get (l : List Nat) (i : Nat) (h : i < l.length) : (ivN l)[i]? = some (.int .i64 (l[i] : Int)) := by simp [ivN, h]
theorem Tryz.undI46 : Tryz.prog.underlying 46 = some (.slice 3) := by kernel_rfl
theorem infoI3 : (Tryz.prog.info? 3).map (fun i => (i.zero, i.size, i.bytes)) = some (some (.int .i64 0), 1, 8) := by kernel_rfl
theorem bsI0 (w : World) : (Instr.buildSlice 46 0 #[]).run Tryz.prog w = .ok (.slice (some ⟨w.heap.size, 0, none⟩) 0 0) (w.alloc (.cells #[] 3)) := by kernel_rfl
theorem bsI1 (n : Int) (w : World) : (Instr.buildSlice 46 1 #[(0, .int .i64 n)]).run Tryz.prog w = .ok (.slice (some ⟨w.heap.size, 0, none⟩) 1 1) (w.alloc (.cells #[.int .i64 n] 3)) := by kernel_rfl
theorem num_of {ids : List Hs} {h : Hs} {n : Nat} (e : ixH ids h = n) (hn : n < ids.length) : numV ids h = (n : Int) := by rw [numV, if_pos (by rw [e]; exact hn), e]
theorem num_in {ids : List Hs} {h : Hs} (hh : h ∈ ids) : 0 ≤ numV ids h := by rw [numV, if_pos (ixH_lt.2 hh)]; omega
structure PrtAt (w : World) (p q : Nat) (H K : List EP) (S R : List (Nat × List Nat)) (v x : Value) (mb ub mc uc : Nat) (P : Nat → Bool) : Prop where
 p : HisAt w p H S v mb ub
 q : HisAt w q K R x mc uc
 ex : exs K = prt (exs H) P
 cl : Cl (exs H) P
theorem PrtAt.below {w w' : World} {p q : Nat} {H K : List EP} {S R : List (Nat × List Nat)} {v x : Value} {mb ub mc uc : Nat} {P : Nat → Bool} (h : PrtAt w p q H K S R v x mb ub mc uc P) (hb : Below w.heap.size w w') : PrtAt w' p q H K S R v x mb ub mc uc P := { h with p := h.p.below hb, q := h.q.below hb }
theorem PrtAt.len {w : World} {p q : Nat} {H K : List EP} {S R : List (Nat × List Nat)} {v x : Value} {mb ub mc uc : Nat} {P : Nat → Bool} (h : PrtAt w p q H K S R v x mb ub mc uc P) : K.length = (pos (exs H) P).length := by rw [← exs_len K, h.ex, prt_len]
theorem PrtAt.ent {w : World} {p q : Nat} {H K : List EP} {S R : List (Nat × List Nat)} {v x : Value} {mb ub mc uc : Nat} {P : Nat → Bool} (h : PrtAt w p q H K S R v x mb ub mc uc P) {t n : Nat} (ht : t < K.length) (e : (pos (exs H) P)[t]'(by rw [← h.len]; exact ht) = n) : ∃ hn : n < H.length, K[t].1 = H[n].1 ∧ numV (idsE (exs H)) K[t].1.id = (n : Int) := by
 have ht' : t < (pos (exs H) P).length := by rw [← h.len]; exact ht
 have h1 := (pos_in ht').1
 have hn : n < H.length := by rw [← e, ← exs_len H]; exact h1
 have hX : K[t].1 = H[n].1 := by
  have e1 := exs_get? K t ht
  rw [h.ex, List.getElem?_eq_getElem (by rw [prt_len]; exact ht'), prt_get ht'] at e1
  have e2 := exs_get? H n hn
  rw [List.getElem?_eq_getElem (by rw [exs_len]; exact hn)] at e2
  have e3 := Option.some.inj e1
  have e4 := Option.some.inj e2
  subst e
  rw [← e3, ← e4]
 refine ⟨hn, hX, num_of ?_ (by rw [idsE_len, exs_len]; exact hn)⟩
 have e5 := prt_num h.p.hst.nd ht'
 have e1 := exs_get? K t ht
 rw [h.ex, List.getElem?_eq_getElem (by rw [prt_len]; exact ht')] at e1
 rw [Option.some.inj e1, e] at e5
 exact e5
theorem PrtAt.sees {w : World} {p q : Nat} {H K : List EP} {S R : List (Nat × List Nat)} {v x : Value} {mb ub mc uc : Nat} {P : Nat → Bool} (h : PrtAt w p q H K S R v x mb ub mc uc P) {u t m n : Nat} (ht : t < K.length) (hu : u < t) (e : (pos (exs H) P)[t]'(by rw [← h.len]; exact ht) = n) (e2 : (pos (exs H) P)[u]'(by rw [← h.len]; omega) = m) : m < n ∧ seesW S m n = seesW R u t ∧ seesW R t u = false := by
 have ht' : t < (pos (exs H) P).length := by rw [← h.len]; exact ht
 have hu' : u < (pos (exs H) P).length := by omega
 have hm := pos_mono hu' ht' hu
 rw [e, e2] at hm
 have hk : Hst (prt (exs H) P) (R.map (·.2)) := by rw [← h.ex]; exact h.q.hst
 refine ⟨hm, ?_, ?_⟩
 ·have := prt_rows h.p.hst h.cl hk t ht' u hu'
  rw [e, e2] at this
  rw [seesW, seesW, this, decide_eq_false (by omega), decide_eq_false (by omega)]
 ·rw [seesW]
  cases hv : hasW ((R.map (·.2)).getD u []) t
  ·simp
  ·have := h.q.hst.le (by rw [exs_len]; omega) hv
   omega
set_option maxRecDepth 16000 in
set_option maxHeartbeats 8000000 in
theorem part_law (p q : Nat) (H K : List EP) (S R : List (Nat × List Nat)) (v x : Value) (mb ub mc uc : Nat) (P : Nat → Bool) (w : World) (hP : PrtAt w p q H K S R v x mb ub mc uc P) (hv : Value) (hs : List Hs) (hH : HRow w hv hs) (hL : hs.length ≤ 4398046511104) (hM : ∀ g ∈ hs, g ∈ idsE (exs K)) : Calls Tryz.prog 25 #[.pointer (some ⟨p, 0, none⟩), .pointer (some ⟨q, 0, none⟩), hv] w fun e w' => e = .returned (.bool true) ∧ Below w.heap.size w w' := by
 obtain ⟨ha, hc, rfl⟩ := hH.form
 have HP := Keep.mk hP
 have HH := Keep.mk hH
 have HL := Keep.mk hL
 have HM := Keep.mk hM
 clear hP hH hL hM
 go_enter Tryz.func25, Tryz.ntmps25
 refine wp_seq_k fun K1 hK1 => rgn ?_
 refine VbF ?_
 refine WL.nil (hK1 _ _ ?_)
 refine wp_seq_k fun K2 hK2 => rgn ?_
 refine WL.bs (by kernel_rfl) 46 0 _ rfl #[] (by simp) _ _ (bsI0 w) ?_
 have HO0 := Keep.mk (owns_new w 3 1)
 have B0 := Keep.mk (below_new w (.cells #[] 3))
 generalize w.alloc (.cells #[] 3) = w0 at *
 simp only [Act.put, pqA, pqB, pqC]
 refine VlS (.slice (some ⟨w.heap.size, 0, none⟩) 0 0) ?_
 refine WL.nil (hK2 _ _ ?_)
 refine wp_seq_k fun K3 hK3 => ?_
 refine wp_seq_k fun K4 hK4 => rgn ?_
 refine VlS (.pointer (some ⟨q, 0, none⟩)) ?_
 refine WL.callF (by kernel_rfl) 18 _ _ rfl Tryz.in18 #[.pointer (some ⟨q, 0, none⟩)] (by simp [Act.eval]) ?_
 refine (plen_any K R x q mc uc w0 (HP.out.q.rd.below B0.out)).mono ?_
 rintro e wq ⟨rfl, hwq⟩
 refine ⟨_, rfl, ?_⟩
 rw [hwq]
 clear hwq
 simp only [Act.put, pqA, pqB, pqC]
 refine VlS (.int .i64 0) ?_
 refine WL.nil (hK4 _ _ ?_)
 refine wp_block ?_
 refine wp_loop (fun ac wr => ∃ (t : Nat) (f : Nat → Value) (u7 : Value), ac = { tmps := #[.pointer (some ⟨p, 0, none⟩), .pointer (some ⟨q, 0, none⟩), .slice ha hs.length hc, undef, undef, undef, .bool false, u7, f 8, f 9, f 10, f 11, f 12, f 13, f 14, undef, undef, .slice (some ⟨w.heap.size, 0, none⟩) 0 0, .pointer (some ⟨q, 0, none⟩), .int .i64 (K.length : Int), .int .i64 (t : Int), f 21, f 22, f 23, f 24, f 25, f 26, f 27, f 28, f 29, f 30, f 31, f 32, f 33, f 34, f 35, f 36, f 37, f 38, f 39, f 40, f 41, f 42, f 43, f 44, f 45, f 46, f 47, f 48, f 49, f 50, f 51, f 52, f 53, f 54, f 55, f 56, f 57, f 58, f 59, f 60, f 61, f 62, f 63, f 64, f 65, f 66, f 67, f 68, f 69, f 70, f 71, f 72, f 73, f 74, f 75, f 76, f 77, f 78, f 79, f 80, f 81, f 82, f 83, f 84, f 85, f 86, f 87, f 88, f 89, f 90, f 91, f 92, f 93, undef, undef, undef, undef, undef, undef, undef, undef, undef, undef, undef], defers := [] } ∧ t ≤ K.length ∧ Below w.heap.size w wr ∧ wr.ownsRow w.heap.size 3 1 u7 t (ivN ((pos (exs H) P).take t))) (fun a _ => K.length - (intOf (a.tmps.getD 20 undef)).toNat) ⟨0, fun zz => [.pointer (some ⟨p, 0, none⟩), .pointer (some ⟨q, 0, none⟩), .slice ha hs.length hc, undef, undef, undef, .bool false, .slice (some ⟨w.heap.size, 0, none⟩) 0 0, undef, undef, undef, undef, undef, undef, undef, undef, undef, .slice (some ⟨w.heap.size, 0, none⟩) 0 0, .pointer (some ⟨q, 0, none⟩), .int .i64 (K.length : Int), .int .i64 0, undef, undef, undef, undef, undef, undef, undef, undef, undef, undef, undef, undef, undef, undef, undef, undef, undef, undef, undef, undef, undef, undef, undef, undef, undef, undef, undef, undef, undef, undef, undef, undef, undef, undef, undef, undef, undef, undef, undef, undef, undef, undef, undef, undef, undef, undef, undef, undef, undef, undef, undef, undef, undef, undef, undef, undef, undef, undef, undef, undef, undef, undef, undef, undef, undef, undef, undef, undef, undef, undef, undef, undef, undef, undef, undef, undef, undef, undef, undef, undef, undef, undef, undef, undef].getD zz undef, .slice (some ⟨w.heap.size, 0, none⟩) 0 0, rfl, by omega, B0.out, HO0.out⟩ ?_
 rintro ac wr ⟨t, f, u7, rfl, ht, hB, hO⟩
 have JB := Keep.mk hB
 have JO := Keep.mk hO
 clear hB hO
 have JP := Keep.mk (HP.out.below JB.out)
 by_cases htl : t < K.length
 ·have htl' : (t : Int) < (K.length : Int) := by omega
  have hwt : IntKind.i64.wrap ((t : Int) + 1) = ((t + 1 : Nat) : Int) := by rw [IntKind.wrap_i64]; have := HP.out.q.rd.n; omega
  have htq : t < (pos (exs H) P).length := by rw [← HP.out.len]; exact htl
  obtain ⟨n, hn⟩ : ∃ n, Keep ((pos (exs H) P)[t] = n) := ⟨_, ⟨rfl⟩⟩
  obtain ⟨hnl, hxy, hnum⟩ := HP.out.ent htl hn.out
  have HXY := Keep.mk hxy
  have HNum := Keep.mk hnum
  clear hxy hnum
  refine wp_seq_k fun K5 hK5 => rgn ?_
  refine VbT ?_
  refine WL.nil (hK5 _ _ ?_)
  refine wp_seq_k fun K6 hK6 => ?_
  refine wp_cond_true rfl ?_
  refine wp_skip ?_
  refine hK6 _ _ ?_
  refine wp_seq_k fun K7 hK7 => ?_
  refine wp_block ?_
  refine wp_seq_k fun K8 hK8 => rgn ?_
  refine VlS (.int .i64 (t : Int)) ?_
  refine VlS (.int .i64 (t : Int)) ?_
  refine WL.nil (hK8 _ _ ?_)
  refine wp_seq_k fun K9 hK9 => rgn ?_
  refine VlS (.pointer (some ⟨q, 0, none⟩)) ?_
  refine VlS (.int .i64 (t : Int)) ?_
  refine WL.callF (by kernel_rfl) 19 _ _ rfl Tryz.in19 #[.pointer (some ⟨q, 0, none⟩), .int .i64 (t : Int)] (by simp [Act.eval]) ?_
  refine (entry_yes K R x q mc uc wr JP.out.q.rd t htl).mono ?_
  rintro e wa ⟨p1, q1, rfl, hF⟩
  refine ⟨_, rfl, ?_⟩
  have FA := Keep.mk hF
  have JPa := Keep.mk (JP.out.below hF.bel)
  have JBa := Keep.mk (belowC JB.out hF.bel)
  have JOa := Keep.mk (owns_grown JO.out (Grown.below (S := fun _ => False) hF.bel) fun _ _ h => h)
  clear hF
  obtain ⟨ea, hea⟩ : ∃ a : Array Value, Keep (a = entA K[t].1.id.f K[t].1.N.au K[t].1.N.ck p1 q1) := ⟨_, ⟨rfl⟩⟩
  rw [← hea.out]
  simp only [Act.put, pqA, pqB, pqC]
  refine VlS (.tuple #[.agg ea, .int .i64 0]) ?_
  refine VlS (.agg ea) ?_
  refine VlS (.int .i64 0) ?_
  refine WL.new (by kernel_rfl) 52 rfl (entA (fun _ => 0) 0 0 (.slice none 0 0) (.slice none 0 0)) Tryz.new52 ?_
  obtain ⟨wb, hwn⟩ : ∃ wx, Keep (wx = wa.alloc (.cells (entA (fun _ => 0) 0 0 (.slice none 0 0) (.slice none 0 0)) 52)) := ⟨_, ⟨rfl⟩⟩
  rw [← hwn.out]
  have HZ6 : Keep (Blk wb wa.heap.size 52 (entA (fun _ => 0) 0 0 (.slice none 0 0) (.slice none 0 0))) := ⟨by rw [hwn.out]; exact Blk.new _ _ _⟩
  have LB6 : Keep (Below wa.heap.size wa wb) := ⟨by rw [hwn.out]; exact below_new _ _⟩
  clear hwn
  simp only [Act.put, pqA, pqB, pqC]
  refine WL.storeR (by kernel_rfl) 52 (.tmp 9) (.tmp 27) rfl wa.heap.size ea rfl rfl 52 _ HZ6.out (by rw [hea.out]; exact sizeE _ _ _ _ _) (by rw [hea.out, entA_size, entA_size]) (by rw [hea.out]; exact entA_one _ _ _ _ _ (by obtain ⟨a, c, e⟩ := FA.out.nd.ps.form; rw [e]; rfl) (by obtain ⟨a, c, e⟩ := FA.out.nd.ops.form; rw [e]; rfl)) ?_
  have HA := Keep.mk (HZ6.out.setRow ea)
  have LXga : Keep (Below wa.heap.size wa (wb.setRow wa.heap.size ea)) := ⟨below_setRow LB6.out (Nat.le_refl _) _⟩
  generalize wb.setRow wa.heap.size ea = wc at *
  have JPc := Keep.mk (JPa.out.below LXga.out)
  have JBc := Keep.mk (belowC JBa.out LXga.out)
  have JOc := Keep.mk (owns_grown JOa.out (Grown.below (S := fun _ => False) LXga.out) fun _ _ h => h)
  have NA := Keep.mk (FA.out.nd.below LXga.out)
  generalize wa.heap.size = ga at *
  clear LXga HZ6 LB6
  simp only [Act.put]
  refine VlS (.int .i64 0) ?_
  refine WL.nil (hK9 _ _ ?_)
  refine wp_seq_k fun K10 hK10 => rgn ?_
  refine VlS (.pointer (some ⟨p, 0, none⟩)) ?_
  refine VlS (.pointer (some ⟨ga, 0, none⟩)) ?_
  refine WL.midA (by kernel_rfl) 36 (.tmp 30) rfl ga 0 rfl (bytesA 32 K[t].1.id.f) _ (by have h := blk_range HA.out; rw [hea.out] at h; exact ent_range_id h) Tryz.underlying36 rfl (size36E _) ?_
  simp only [Act.put, pqA, pqB, pqC]
  refine WL.callF (by kernel_rfl) 13 _ _ rfl Tryz.in13 #[.pointer (some ⟨p, 0, none⟩), .agg (bytesA 32 K[t].1.id.f)] (by simp [Act.eval]) ?_
  refine (number_any H S v p mb ub wc JPc.out.p.rd K[t].1.id).mono ?_
  rintro e wd ⟨rfl, hb⟩
  refine ⟨_, rfl, ?_⟩
  rw [HNum.out]
  have JPd := Keep.mk (JPc.out.below hb)
  have JBd := Keep.mk (belowC JBc.out hb)
  have JOd := Keep.mk (owns_grown JOc.out (Grown.below (S := fun _ => False) hb) fun _ _ h => h)
  have NAd := Keep.mk (NA.out.below hb)
  have HAd := Keep.mk (HA.out.below hb HA.out.lt)
  clear hb
  simp only [Act.put, pqA, pqB, pqC]
  refine VlS (.int .i64 (n : Int)) ?_
  refine WL.nil (hK10 _ _ ?_)
  refine wp_seq_k fun K11 hK11 => rgn ?_
  refine VlS (.pointer (some ⟨p, 0, none⟩)) ?_
  refine VlS (.int .i64 (n : Int)) ?_
  refine WL.callF (by kernel_rfl) 19 _ _ rfl Tryz.in19 #[.pointer (some ⟨p, 0, none⟩), .int .i64 (n : Int)] (by simp [Act.eval]) ?_
  refine (entry_yes H S v p mb ub wd JPd.out.p.rd n hnl).mono ?_
  rintro e we ⟨p2, q2, rfl, hF⟩
  refine ⟨_, rfl, ?_⟩
  have FB := Keep.mk hF
  have JPe := Keep.mk (JPd.out.below hF.bel)
  have JBe := Keep.mk (belowC JBd.out hF.bel)
  have JOe := Keep.mk (owns_grown JOd.out (Grown.below (S := fun _ => False) hF.bel) fun _ _ h => h)
  have NA2 := Keep.mk (NAd.out.below hF.bel)
  have HAe := Keep.mk (HAd.out.below hF.bel HAd.out.lt)
  clear hF
  obtain ⟨eb, heb⟩ : ∃ a : Array Value, Keep (a = entA H[n].1.id.f H[n].1.N.au H[n].1.N.ck p2 q2) := ⟨_, ⟨rfl⟩⟩
  rw [← heb.out]
  simp only [Act.put, pqA, pqB, pqC]
  refine VlS (.tuple #[.agg eb, .int .i64 0]) ?_
  refine VlS (.agg eb) ?_
  refine VlS (.int .i64 0) ?_
  refine WL.new (by kernel_rfl) 52 rfl (entA (fun _ => 0) 0 0 (.slice none 0 0) (.slice none 0 0)) Tryz.new52 ?_
  obtain ⟨wf, hwn⟩ : ∃ wx, Keep (wx = we.alloc (.cells (entA (fun _ => 0) 0 0 (.slice none 0 0) (.slice none 0 0)) 52)) := ⟨_, ⟨rfl⟩⟩
  rw [← hwn.out]
  have HZ8 : Keep (Blk wf we.heap.size 52 (entA (fun _ => 0) 0 0 (.slice none 0 0) (.slice none 0 0))) := ⟨by rw [hwn.out]; exact Blk.new _ _ _⟩
  have LB8 : Keep (Below we.heap.size we wf) := ⟨by rw [hwn.out]; exact below_new _ _⟩
  clear hwn
  simp only [Act.put, pqA, pqB, pqC]
  refine WL.storeR (by kernel_rfl) 52 (.tmp 12) (.tmp 37) rfl we.heap.size eb rfl rfl 52 _ HZ8.out (by rw [heb.out]; exact sizeE _ _ _ _ _) (by rw [heb.out, entA_size, entA_size]) (by rw [heb.out]; exact entA_one _ _ _ _ _ (by obtain ⟨a, c, e⟩ := FB.out.nd.ps.form; rw [e]; rfl) (by obtain ⟨a, c, e⟩ := FB.out.nd.ops.form; rw [e]; rfl)) ?_
  have HB := Keep.mk (HZ8.out.setRow eb)
  have LXgb : Keep (Below we.heap.size we (wf.setRow we.heap.size eb)) := ⟨below_setRow LB8.out (Nat.le_refl _) _⟩
  generalize wf.setRow we.heap.size eb = wg at *
  have JPg := Keep.mk (JPe.out.below LXgb.out)
  have JBg := Keep.mk (belowC JBe.out LXgb.out)
  have JOg := Keep.mk (owns_grown JOe.out (Grown.below (S := fun _ => False) LXgb.out) fun _ _ h => h)
  have NB := Keep.mk (FB.out.nd.below LXgb.out)
  have NA3 := Keep.mk (NA2.out.below LXgb.out)
  have HAf := Keep.mk (HAe.out.below LXgb.out HAe.out.lt)
  generalize we.heap.size = gb at *
  clear LXgb HZ8 LB8
  simp only [Act.put]
  refine VlS (.int .i64 0) ?_
  refine WL.nil (hK11 _ _ ?_)
  refine wp_seq_k fun K12 hK12 => ?_
  refine wp_seq_k fun K13 hK13 => rgn ?_
  refine VlS (.int .i64 0) ?_
  refine VbF ?_
  refine VbF ?_
  refine VlS (.int .i64 0) ?_
  refine VbF ?_
  refine VbF ?_
  refine VbF ?_
  refine WL.row (by kernel_rfl) 52 (.tmp 9) rfl ga rfl 52 ea _ HAf.out Tryz.underlying52 rfl (by rw [hea.out]; exact sizeE _ _ _ _ _) ?_
  simp only [Act.put, pqA, pqB, pqC]
  refine WL.row (by kernel_rfl) 52 (.tmp 12) rfl gb rfl 52 eb _ HB.out Tryz.underlying52 rfl (by rw [heb.out]; exact sizeE _ _ _ _ _) ?_
  simp only [Act.put, pqA, pqB, pqC]
  refine WL.callF (by kernel_rfl) 42 _ _ rfl Tryz.in42 #[.agg ea, .agg eb] (by simp [Act.eval]) ?_
  refine ((by have h := same_ent K[t].1 H[n].1 p1 q1 p2 q2 wg NA3.out NB.out; rw [show sameX K[t].1 H[n].1 = true by rw [HXY.out]; exact sameX_self _, ← hea.out, ← heb.out] at h; exact h : Calls Tryz.prog 42 #[.agg ea, .agg eb] wg _)).mono ?_
  rintro e wh_ ⟨rfl, hb⟩
  refine ⟨_, rfl, ?_⟩
  have JPh := Keep.mk (JPg.out.below hb)
  have JBh := Keep.mk (belowC JBg.out hb)
  have JOh := Keep.mk (owns_grown JOg.out (Grown.below (S := fun _ => False) hb) fun _ _ h => h)
  have NA4 := Keep.mk (NA3.out.below hb)
  have HAh := Keep.mk (HAf.out.below hb HAf.out.lt)
  clear hb
  simp only [Act.put, pqA, pqB, pqC]
  refine VbF ?_
  refine VbF ?_
  refine VbF ?_
  refine VlS (.pointer (some ⟨q, 0, none⟩)) ?_
  refine WL.row (by kernel_rfl) 52 (.tmp 9) rfl ga rfl 52 ea _ HAh.out Tryz.underlying52 rfl (by rw [hea.out]; exact sizeE _ _ _ _ _) ?_
  simp only [Act.put, pqA, pqB, pqC]
  refine VlS (.int .i64 (t : Int)) ?_
  refine WL.callF (by kernel_rfl) 20 _ _ rfl Tryz.in20 #[.pointer (some ⟨q, 0, none⟩), .agg ea, .int .i64 (t : Int)] (by simp [Act.eval]) ?_
  refine ((by have h := parents_law K R x q mc uc wh_ JPh.out.q.rd K[t].1 p1 q1 (t : Int) NA4.out.ps (by have := (ck_ok (HP.out.q.rd.ok _ (List.getElem_mem htl))).2.2; omega); rw [← hea.out, show parB (idsE (exs K)) K[t].1.N.ps (t : Int) = true from by have h2 := par_ok HP.out.q.hst.topo HP.out.q.hst.nd (i := t) (by rw [exs_len]; exact htl); rw [exs_get K t htl] at h2; exact h2] at h; exact h : Calls Tryz.prog 20 #[.pointer (some ⟨q, 0, none⟩), .agg ea, .int .i64 (t : Int)] wh_ _)).mono ?_
  rintro e wi ⟨rfl, hb⟩
  refine ⟨_, rfl, ?_⟩
  have JPi := Keep.mk (JPh.out.below hb)
  have JBi := Keep.mk (belowC JBh.out hb)
  have JOi := Keep.mk (owns_grown JOh.out (Grown.below (S := fun _ => False) hb) fun _ _ h => h)
  clear hb
  simp only [Act.put, pqA, pqB, pqC]
  refine VbF ?_
  refine VbF ?_
  refine WL.nil (hK13 _ _ ?_)
  refine wp_cond_false rfl ?_
  refine wp_skip ?_
  refine hK12 _ _ ?_
  refine wp_seq_k fun K14 hK14 => rgn ?_
  refine VlS (u7) ?_
  refine VlS (.int .i64 (n : Int)) ?_
  refine WL.bs (by kernel_rfl) 46 1 _ rfl #[(0, .int .i64 (n : Int))] (by simp [Act.eval]) _ _ (bsI1 (n : Int) wi) ?_
  obtain ⟨wj, hwj⟩ : ∃ wq, Keep (wq = wi.alloc (.cells #[.int .i64 (n : Int)] 3)) := ⟨_, ⟨rfl⟩⟩
  rw [← hwj.out]
  have HBj : Keep (Blk wj wi.heap.size 3 #[.int .i64 (n : Int)]) := ⟨by rw [hwj.out]; exact Blk.new _ _ _⟩
  have LBj : Keep (Below wi.heap.size wi wj) := ⟨by rw [hwj.out]; exact below_new _ _⟩
  clear hwj
  have JOj := Keep.mk (owns_grown JOi.out (Grown.below (S := fun _ => False) LBj.out) fun _ _ h => h)
  have JBj := Keep.mk (belowC JBi.out LBj.out)
  simp only [Act.put, pqA, pqB, pqC]
  refine WL.appG (by kernel_rfl) 46 3 1 8 _ Tryz.undI46 infoI3 (by kernel_rfl) (by decide) (.tmp 58) (.tmp 60) rfl w.heap.size _ ⟨wi.heap.size, 0, none⟩ t 1 1 _ [.int .i64 (n : Int)] rfl rfl JOj.out rfl (fun j u hu => by rw [Addr.add_mid]; have h := blk_range HBj.out; exact h j u hu) (fun u hu => by rw [List.mem_singleton.1 hu]; rfl) (by have := HP.out.q.rd.n; omega) (by omega) JBj.out.size fun v3 wk h1 h2 => ?_
  have JOk : Keep (wk.ownsRow w.heap.size 3 1 v3 (t + 1) (ivN ((pos (exs H) P).take (t + 1)))) := ⟨by rw [List.take_succ_eq_append_getElem htq, hn.out]; unfold ivN; rw [List.map_append]; exact h1⟩
  have JBk : Keep (Below w.heap.size w wk) := ⟨JBj.out.trans ((Grown.of (S := fun k => u7.ownBlock = some k) h2 fun k _ e => e).to_below (fun k hk e => by have := owns_block JOj.out k e; omega) JBj.out.size)⟩
  clear h1 h2
  obtain ⟨rb, rc, hv3⟩ : ∃ rb rc, v3 = .slice (some ⟨rb, 0, none⟩) (t + 1) rc := by
   rcases JOk.out.2 with ⟨h, hz⟩ | ⟨g, cap, cur, h, _⟩
   ·cases hz
   ·exact ⟨g, cap, h⟩
  subst hv3
  have JPk := Keep.mk (HP.out.below JBk.out)
  simp only [Act.put, pqA, pqB, pqC]
  refine VlS (.slice (some ⟨rb, 0, none⟩) (t + 1) rc) ?_
  refine WL.nil (hK14 _ _ ?_)
  refine wp_seq_k fun K15 hK15 => rgn ?_
  refine VlS (.int .i64 (t : Int)) ?_
  refine VlS (.int .i64 0) ?_
  refine WL.nil (hK15 _ _ ?_)
  refine wp_block ?_
  refine wp_loop (fun ac ws => ∃ (u : Nat) (fy : Nat → Value), ac = { tmps := #[.pointer (some ⟨p, 0, none⟩), .pointer (some ⟨q, 0, none⟩), .slice ha hs.length hc, undef, undef, undef, .bool false, .slice (some ⟨rb, 0, none⟩) (t + 1) rc, .int .i64 (t : Int), .pointer (some ⟨ga, 0, none⟩), .int .i64 0, .int .i64 (n : Int), .pointer (some ⟨gb, 0, none⟩), .int .i64 0, fy 14, undef, undef, .slice (some ⟨w.heap.size, 0, none⟩) 0 0, .pointer (some ⟨q, 0, none⟩), .int .i64 (K.length : Int), .int .i64 (t : Int), .bool true, .int .i64 (t : Int), .tuple #[.agg ea, .int .i64 0], .pointer (some ⟨q, 0, none⟩), .int .i64 (t : Int), .tuple #[.agg ea, .int .i64 0], .agg ea, .int .i64 0, .pointer (some ⟨p, 0, none⟩), .pointer (some ⟨ga, 0, none⟩), .agg (bytesA 32 K[t].1.id.f), .int .i64 (n : Int), .tuple #[.agg eb, .int .i64 0], .pointer (some ⟨p, 0, none⟩), .int .i64 (n : Int), .tuple #[.agg eb, .int .i64 0], .agg eb, .int .i64 0, .int .i64 0, .bool false, .bool false, .int .i64 0, .bool false, .bool false, .bool false, .agg ea, .agg eb, .bool true, .bool false, .bool false, .bool false, .pointer (some ⟨q, 0, none⟩), .agg ea, .int .i64 (t : Int), .bool true, .bool false, .bool false, u7, .int .i64 (n : Int), .slice (some ⟨wi.heap.size, 0, none⟩) 1 1, .slice (some ⟨rb, 0, none⟩) (t + 1) rc, .int .i64 (t : Int), .int .i64 (u : Int), fy 64, fy 65, fy 66, fy 67, fy 68, fy 69, fy 70, fy 71, fy 72, fy 73, fy 74, fy 75, fy 76, fy 77, fy 78, fy 79, fy 80, fy 81, fy 82, fy 83, fy 84, fy 85, fy 86, fy 87, fy 88, fy 89, fy 90, fy 91, fy 92, f 93, undef, undef, undef, undef, undef, undef, undef, undef, undef, undef, undef], defers := [] } ∧ u ≤ t ∧ wk = ws) (fun a _ => t - (intOf (a.tmps.getD 63 undef)).toNat) ⟨0, fun zz => [.pointer (some ⟨p, 0, none⟩), .pointer (some ⟨q, 0, none⟩), .slice ha hs.length hc, undef, undef, undef, .bool false, .slice (some ⟨rb, 0, none⟩) (t + 1) rc, .int .i64 (t : Int), .pointer (some ⟨ga, 0, none⟩), .int .i64 0, .int .i64 (n : Int), .pointer (some ⟨gb, 0, none⟩), .int .i64 0, f 14, undef, undef, .slice (some ⟨w.heap.size, 0, none⟩) 0 0, .pointer (some ⟨q, 0, none⟩), .int .i64 (K.length : Int), .int .i64 (t : Int), .bool true, .int .i64 (t : Int), .tuple #[.agg ea, .int .i64 0], .pointer (some ⟨q, 0, none⟩), .int .i64 (t : Int), .tuple #[.agg ea, .int .i64 0], .agg ea, .int .i64 0, .pointer (some ⟨p, 0, none⟩), .pointer (some ⟨ga, 0, none⟩), .agg (bytesA 32 K[t].1.id.f), .int .i64 (n : Int), .tuple #[.agg eb, .int .i64 0], .pointer (some ⟨p, 0, none⟩), .int .i64 (n : Int), .tuple #[.agg eb, .int .i64 0], .agg eb, .int .i64 0, .int .i64 0, .bool false, .bool false, .int .i64 0, .bool false, .bool false, .bool false, .agg ea, .agg eb, .bool true, .bool false, .bool false, .bool false, .pointer (some ⟨q, 0, none⟩), .agg ea, .int .i64 (t : Int), .bool true, .bool false, .bool false, u7, .int .i64 (n : Int), .slice (some ⟨wi.heap.size, 0, none⟩) 1 1, .slice (some ⟨rb, 0, none⟩) (t + 1) rc, .int .i64 (t : Int), .int .i64 0, f 64, f 65, f 66, f 67, f 68, f 69, f 70, f 71, f 72, f 73, f 74, f 75, f 76, f 77, f 78, f 79, f 80, f 81, f 82, f 83, f 84, f 85, f 86, f 87, f 88, f 89, f 90, f 91, f 92, f 93, undef, undef, undef, undef, undef, undef, undef, undef, undef, undef, undef].getD zz undef, rfl, by omega, rfl⟩ ?_
  rintro ac ws ⟨u, fy, rfl, hu, hwk_⟩
  subst hwk_
  by_cases hul : u < t
  ·have hul' : (u : Int) < (t : Int) := by omega
   have hu0 : (0 : Int) ≤ (u : Int) := by omega
   have hwu : IntKind.i64.wrap ((u : Int) + 1) = ((u + 1 : Nat) : Int) := by rw [IntKind.wrap_i64]; have := HP.out.q.rd.n; omega
   have huq : u < (pos (exs H) P).length := by omega
   obtain ⟨m, hm⟩ : ∃ m, Keep ((pos (exs H) P)[u] = m) := ⟨_, ⟨rfl⟩⟩
   obtain ⟨hmn, hs1, hs2⟩ := HP.out.sees htl hul hn.out hm.out
   have hmn' : ¬ ((n : Int) ≤ (m : Int)) := by omega
   have hul2 : (u : Int) < (t : Int) + 1 := by omega
   have hul3 : ¬ ((t : Int) + 1 ≤ (u : Int)) := by omega
   have hml : m < H.length := by omega
   have hukl : u < K.length := by omega
   obtain ⟨b, hb⟩ : ∃ b, Keep (seesW R u t = b) := ⟨_, ⟨rfl⟩⟩
   have hb2 : Keep (seesW S m n = b) := ⟨by rw [hs1]; exact hb.out⟩
   have hb3 := Keep.mk hs2
   clear hs1 hs2
   have cu : wk.cell? ⟨rb, u, none⟩ = some (.int .i64 (m : Int)) := by
    have h := JOk.out.cells (g := rb) rfl u (.int .i64 (m : Int)) (by rw [ivN_get _ u (by rw [List.length_take]; omega), List.getElem_take, hm.out])
    rw [Addr.add_mid] at h
    rwa [Nat.zero_add] at h
   refine wp_seq_k fun K16 hK16 => rgn ?_
   refine VbT ?_
   refine WL.nil (hK16 _ _ ?_)
   refine wp_seq_k fun K17 hK17 => ?_
   refine wp_cond_true rfl ?_
   refine wp_skip ?_
   refine hK17 _ _ ?_
   refine wp_seq_k fun K18 hK18 => ?_
   refine wp_block ?_
   refine wp_seq_k fun K19 hK19 => rgn ?_
   refine VlS (.int .i64 (u : Int)) ?_
   refine VlS (.int .i64 (u : Int)) ?_
   refine WL.nil (hK19 _ _ ?_)
   refine wp_seq_k fun K20 hK20 => rgn ?_
   refine VlS (.slice (some ⟨rb, 0, none⟩) (t + 1) rc) ?_
   refine VlS (.int .i64 (u : Int)) ?_
   refine VlS (.pointer (some ⟨rb, u, none⟩)) ?_
   refine VlS (.int .i64 (m : Int)) ?_
   refine VlS (.int .i64 (n : Int)) ?_
   refine VbF ?_
   refine VbF ?_
   refine VlS (.pointer (some ⟨p, 0, none⟩)) ?_
   refine VlS (.slice (some ⟨rb, 0, none⟩) (t + 1) rc) ?_
   refine VlS (.int .i64 (u : Int)) ?_
   refine VlS (.pointer (some ⟨rb, u, none⟩)) ?_
   refine VlS (.int .i64 (m : Int)) ?_
   refine VlS (.int .i64 (n : Int)) ?_
   refine WL.callF (by kernel_rfl) 26 _ _ rfl Tryz.in26 #[.pointer (some ⟨p, 0, none⟩), .int .i64 (m : Int), .int .i64 (n : Int)] (by simp [Act.eval]) ?_
   refine ((by have h := sees_nat H S v p mb ub wk JPk.out.p.rd m n hml hnl; rw [hb2.out] at h; exact h : Calls Tryz.prog 26 #[.pointer (some ⟨p, 0, none⟩), .int .i64 (m : Int), .int .i64 (n : Int)] wk _)).mono ?_
   rintro e wq ⟨rfl, hwq⟩
   refine ⟨_, rfl, ?_⟩
   rw [hwq]
   clear hwq
   simp only [Act.put, pqA, pqB, pqC]
   refine VlS (.pointer (some ⟨q, 0, none⟩)) ?_
   refine VlS (.int .i64 (u : Int)) ?_
   refine VlS (.int .i64 (t : Int)) ?_
   refine WL.callF (by kernel_rfl) 26 _ _ rfl Tryz.in26 #[.pointer (some ⟨q, 0, none⟩), .int .i64 (u : Int), .int .i64 (t : Int)] (by simp [Act.eval]) ?_
   refine ((by have h := sees_nat K R x q mc uc wk JPk.out.q.rd u t hukl htl; rw [hb.out] at h; exact h : Calls Tryz.prog 26 #[.pointer (some ⟨q, 0, none⟩), .int .i64 (u : Int), .int .i64 (t : Int)] wk _)).mono ?_
   rintro e wq ⟨rfl, hwq⟩
   refine ⟨_, rfl, ?_⟩
   rw [hwq]
   clear hwq
   simp only [Act.put, pqA, pqB, pqC]
   refine WL.val (by kernel_rfl) (.bool false) (by cases b <;> go_simp) ?_
   simp only [Act.put, pqA, pqB, pqC]
   refine VbF ?_
   refine VbF ?_
   refine VlS (.pointer (some ⟨q, 0, none⟩)) ?_
   refine VlS (.int .i64 (t : Int)) ?_
   refine VlS (.int .i64 (u : Int)) ?_
   refine WL.callF (by kernel_rfl) 26 _ _ rfl Tryz.in26 #[.pointer (some ⟨q, 0, none⟩), .int .i64 (t : Int), .int .i64 (u : Int)] (by simp [Act.eval]) ?_
   refine ((by have h := sees_nat K R x q mc uc wk JPk.out.q.rd t u htl hukl; rw [hb3.out] at h; exact h : Calls Tryz.prog 26 #[.pointer (some ⟨q, 0, none⟩), .int .i64 (t : Int), .int .i64 (u : Int)] wk _)).mono ?_
   rintro e wq ⟨rfl, hwq⟩
   refine ⟨_, rfl, ?_⟩
   rw [hwq]
   clear hwq
   simp only [Act.put, pqA, pqB, pqC]
   refine VbF ?_
   refine WL.nil (hK20 _ _ ?_)
   refine wp_cond_false rfl ?_
   refine wp_skip ?_
   refine hK18 _ _ ?_
   refine rgn ?_
   refine VlS (.int .i64 ((u + 1 : Nat) : Int)) ?_
   refine VlS (.int .i64 ((u + 1 : Nat) : Int)) ?_
   refine WL.nil ?_
   refine ⟨⟨u + 1, fun zz => [.pointer (some ⟨p, 0, none⟩), .pointer (some ⟨q, 0, none⟩), .slice ha hs.length hc, undef, undef, undef, .bool false, .slice (some ⟨rb, 0, none⟩) (t + 1) rc, .int .i64 (t : Int), .pointer (some ⟨ga, 0, none⟩), .int .i64 0, .int .i64 (n : Int), .pointer (some ⟨gb, 0, none⟩), .int .i64 0, .int .i64 (u : Int), undef, undef, .slice (some ⟨w.heap.size, 0, none⟩) 0 0, .pointer (some ⟨q, 0, none⟩), .int .i64 (K.length : Int), .int .i64 (t : Int), .bool true, .int .i64 (t : Int), .tuple #[.agg ea, .int .i64 0], .pointer (some ⟨q, 0, none⟩), .int .i64 (t : Int), .tuple #[.agg ea, .int .i64 0], .agg ea, .int .i64 0, .pointer (some ⟨p, 0, none⟩), .pointer (some ⟨ga, 0, none⟩), .agg (bytesA 32 K[t].1.id.f), .int .i64 (n : Int), .tuple #[.agg eb, .int .i64 0], .pointer (some ⟨p, 0, none⟩), .int .i64 (n : Int), .tuple #[.agg eb, .int .i64 0], .agg eb, .int .i64 0, .int .i64 0, .bool false, .bool false, .int .i64 0, .bool false, .bool false, .bool false, .agg ea, .agg eb, .bool true, .bool false, .bool false, .bool false, .pointer (some ⟨q, 0, none⟩), .agg ea, .int .i64 (t : Int), .bool true, .bool false, .bool false, u7, .int .i64 (n : Int), .slice (some ⟨wi.heap.size, 0, none⟩) 1 1, .slice (some ⟨rb, 0, none⟩) (t + 1) rc, .int .i64 (t : Int), .int .i64 ((u + 1 : Nat) : Int), .bool true, .int .i64 (u : Int), .slice (some ⟨rb, 0, none⟩) (t + 1) rc, .int .i64 (u : Int), .pointer (some ⟨rb, u, none⟩), .int .i64 (m : Int), .int .i64 (n : Int), .bool false, .bool false, .pointer (some ⟨p, 0, none⟩), .slice (some ⟨rb, 0, none⟩) (t + 1) rc, .int .i64 (u : Int), .pointer (some ⟨rb, u, none⟩), .int .i64 (m : Int), .int .i64 (n : Int), .bool b, .pointer (some ⟨q, 0, none⟩), .int .i64 (u : Int), .int .i64 (t : Int), .bool b, .bool false, .bool false, .bool false, .pointer (some ⟨q, 0, none⟩), .int .i64 (t : Int), .int .i64 (u : Int), .bool false, .bool false, .int .i64 ((u + 1 : Nat) : Int), f 93, undef, undef, undef, undef, undef, undef, undef, undef, undef, undef, undef].getD zz undef, rfl, by omega, rfl⟩, by simp [intOf]; omega⟩
  ·refine wp_seq_k fun K21 hK21 => rgn ?_
   refine VbF ?_
   refine WL.nil (hK21 _ _ ?_)
   refine wp_seq_k fun K22 hK22 => ?_
   refine wp_cond_false rfl ?_
   refine wp_exit ?_
   refine hK7 _ _ ?_
   refine rgn ?_
   refine VlS (.int .i64 ((t + 1 : Nat) : Int)) ?_
   refine VlS (.int .i64 ((t + 1 : Nat) : Int)) ?_
   refine WL.nil ?_
   refine ⟨⟨t + 1, fun zz => [.pointer (some ⟨p, 0, none⟩), .pointer (some ⟨q, 0, none⟩), .slice ha hs.length hc, undef, undef, undef, .bool false, .slice (some ⟨rb, 0, none⟩) (t + 1) rc, .int .i64 (t : Int), .pointer (some ⟨ga, 0, none⟩), .int .i64 0, .int .i64 (n : Int), .pointer (some ⟨gb, 0, none⟩), .int .i64 0, fy 14, undef, undef, .slice (some ⟨w.heap.size, 0, none⟩) 0 0, .pointer (some ⟨q, 0, none⟩), .int .i64 (K.length : Int), .int .i64 ((t + 1 : Nat) : Int), .bool true, .int .i64 (t : Int), .tuple #[.agg ea, .int .i64 0], .pointer (some ⟨q, 0, none⟩), .int .i64 (t : Int), .tuple #[.agg ea, .int .i64 0], .agg ea, .int .i64 0, .pointer (some ⟨p, 0, none⟩), .pointer (some ⟨ga, 0, none⟩), .agg (bytesA 32 K[t].1.id.f), .int .i64 (n : Int), .tuple #[.agg eb, .int .i64 0], .pointer (some ⟨p, 0, none⟩), .int .i64 (n : Int), .tuple #[.agg eb, .int .i64 0], .agg eb, .int .i64 0, .int .i64 0, .bool false, .bool false, .int .i64 0, .bool false, .bool false, .bool false, .agg ea, .agg eb, .bool true, .bool false, .bool false, .bool false, .pointer (some ⟨q, 0, none⟩), .agg ea, .int .i64 (t : Int), .bool true, .bool false, .bool false, u7, .int .i64 (n : Int), .slice (some ⟨wi.heap.size, 0, none⟩) 1 1, .slice (some ⟨rb, 0, none⟩) (t + 1) rc, .int .i64 (t : Int), .int .i64 (u : Int), .bool false, fy 65, fy 66, fy 67, fy 68, fy 69, fy 70, fy 71, fy 72, fy 73, fy 74, fy 75, fy 76, fy 77, fy 78, fy 79, fy 80, fy 81, fy 82, fy 83, fy 84, fy 85, fy 86, fy 87, fy 88, fy 89, fy 90, fy 91, fy 92, .int .i64 ((t + 1 : Nat) : Int), undef, undef, undef, undef, undef, undef, undef, undef, undef, undef, undef].getD zz undef, _, rfl, by omega, JBk.out, JOk.out⟩, by simp [intOf]; omega⟩
 ·have JB1 := JB
  refine wp_seq_k fun K23 hK23 => rgn ?_
  refine VbF ?_
  refine WL.nil (hK23 _ _ ?_)
  refine wp_seq_k fun K24 hK24 => ?_
  refine wp_cond_false rfl ?_
  refine wp_exit ?_
  refine hK3 _ _ ?_
  refine wp_seq_k fun K25 hK25 => ?_
  refine wp_seq_k fun K26 hK26 => rgn ?_
  refine VlS (.slice ha hs.length hc) ?_
  refine VlS (.int .i64 (hs.length : Int)) ?_
  refine VlS (.int .i64 0) ?_
  refine WL.nil (hK26 _ _ ?_)
  refine wp_block ?_
  refine wp_loop (fun ac wr => ∃ (i : Nat) (fi : Nat → Value), ac = { tmps := #[.pointer (some ⟨p, 0, none⟩), .pointer (some ⟨q, 0, none⟩), .slice ha hs.length hc, undef, undef, undef, .bool false, u7, f 8, f 9, f 10, f 11, f 12, f 13, f 14, undef, fi 16, .slice (some ⟨w.heap.size, 0, none⟩) 0 0, .pointer (some ⟨q, 0, none⟩), .int .i64 (K.length : Int), .int .i64 (t : Int), .bool false, f 22, f 23, f 24, f 25, f 26, f 27, f 28, f 29, f 30, f 31, f 32, f 33, f 34, f 35, f 36, f 37, f 38, f 39, f 40, f 41, f 42, f 43, f 44, f 45, f 46, f 47, f 48, f 49, f 50, f 51, f 52, f 53, f 54, f 55, f 56, f 57, f 58, f 59, f 60, f 61, f 62, f 63, f 64, f 65, f 66, f 67, f 68, f 69, f 70, f 71, f 72, f 73, f 74, f 75, f 76, f 77, f 78, f 79, f 80, f 81, f 82, f 83, f 84, f 85, f 86, f 87, f 88, f 89, f 90, f 91, f 92, f 93, .slice ha hs.length hc, .int .i64 (hs.length : Int), .int .i64 (i : Int), fi 97, fi 98, fi 99, fi 100, fi 101, fi 102, fi 103, fi 104], defers := [] } ∧ i ≤ hs.length ∧ Below w.heap.size w wr) (fun a _ => hs.length - (intOf (a.tmps.getD 96 undef)).toNat) ⟨0, fun zz => [.pointer (some ⟨p, 0, none⟩), .pointer (some ⟨q, 0, none⟩), .slice ha hs.length hc, undef, undef, undef, .bool false, u7, f 8, f 9, f 10, f 11, f 12, f 13, f 14, undef, undef, .slice (some ⟨w.heap.size, 0, none⟩) 0 0, .pointer (some ⟨q, 0, none⟩), .int .i64 (K.length : Int), .int .i64 (t : Int), .bool false, f 22, f 23, f 24, f 25, f 26, f 27, f 28, f 29, f 30, f 31, f 32, f 33, f 34, f 35, f 36, f 37, f 38, f 39, f 40, f 41, f 42, f 43, f 44, f 45, f 46, f 47, f 48, f 49, f 50, f 51, f 52, f 53, f 54, f 55, f 56, f 57, f 58, f 59, f 60, f 61, f 62, f 63, f 64, f 65, f 66, f 67, f 68, f 69, f 70, f 71, f 72, f 73, f 74, f 75, f 76, f 77, f 78, f 79, f 80, f 81, f 82, f 83, f 84, f 85, f 86, f 87, f 88, f 89, f 90, f 91, f 92, f 93, .slice ha hs.length hc, .int .i64 (hs.length : Int), .int .i64 0, undef, undef, undef, undef, undef, undef, undef, undef].getD zz undef, rfl, by omega, JB1.out⟩ ?_
  rintro ac wr ⟨i, fi, rfl, hi, hB2⟩
  have IB := Keep.mk hB2
  clear hB2
  have IP := Keep.mk (HP.out.below IB.out)
  by_cases hil : i < hs.length
  ·have hil' : (i : Int) < (hs.length : Int) := by omega
   have hi0 : (0 : Int) ≤ (i : Int) := by omega
   have hwi : IntKind.i64.wrap ((i : Int) + 1) = ((i + 1 : Nat) : Int) := by rw [IntKind.wrap_i64]; have := HL.out; omega
   obtain ⟨pb, po, hpa, hpr⟩ := hrow_at (HH.out.below IB.out) hil
   subst hpa
   obtain ⟨h, hh⟩ : ∃ h : Hs, Keep (h = hs[i]) := ⟨_, ⟨rfl⟩⟩
   rw [← hh.out] at hpr
   have HPr := Keep.mk hpr
   clear hpr
   obtain ⟨nv, hnv⟩ : ∃ k, Keep (numV (idsE (exs K)) h = k) := ⟨_, ⟨rfl⟩⟩
   have hnv0 : ¬ nv < 0 := by rw [← hnv.out]; have := num_in (HM.out h (by rw [hh.out]; exact List.getElem_mem hil)); omega
   refine wp_seq_k fun K27 hK27 => rgn ?_
   refine VbT ?_
   refine WL.nil (hK27 _ _ ?_)
   refine wp_seq_k fun K28 hK28 => ?_
   refine wp_cond_true rfl ?_
   refine wp_skip ?_
   refine hK28 _ _ ?_
   refine wp_seq_k fun K29 hK29 => ?_
   refine wp_block ?_
   refine wp_seq_k fun K30 hK30 => rgn ?_
   refine VlS (.pointer (some ⟨pb, po + i * 32, none⟩)) ?_
   refine WL.midA (by kernel_rfl) 36 (.tmp 98) rfl pb (po + i * 32) rfl (bytesA 32 h.f) _ HPr.out Tryz.underlying36 rfl (size36E _) ?_
   simp only [Act.put, pqA, pqB, pqC]
   refine WL.new (by kernel_rfl) 36 rfl (bytesA 32 fun _ => 0) Tryz.new36 ?_
   obtain ⟨wc, hwn⟩ : ∃ wx, Keep (wx = wr.alloc (.cells (bytesA 32 fun _ => 0) 36)) := ⟨_, ⟨rfl⟩⟩
   rw [← hwn.out]
   have HZ2 : Keep (Blk wc wr.heap.size 36 (bytesA 32 fun _ => 0)) := ⟨by rw [hwn.out]; exact Blk.new _ _ _⟩
   have LB2 : Keep (Below wr.heap.size wr wc) := ⟨by rw [hwn.out]; exact below_new _ _⟩
   clear hwn
   simp only [Act.put, pqA, pqB, pqC]
   refine WL.storeR (by kernel_rfl) 36 (.tmp 16) (.tmp 99) rfl wr.heap.size (bytesA 32 h.f) rfl rfl 36 _ HZ2.out (size36E _) (by rw [bytesA_size, bytesA_size]) (bytesA_one _ _) ?_
   have HH2 := Keep.mk (HZ2.out.setRow (bytesA 32 h.f))
   have LH : Keep (Below wr.heap.size wr (wc.setRow wr.heap.size (bytesA 32 h.f))) := ⟨below_setRow LB2.out (Nat.le_refl _) _⟩
   generalize wc.setRow wr.heap.size (bytesA 32 h.f) = wd at *
   clear HZ2 LB2
   have IBd := Keep.mk (belowC IB.out LH.out)
   generalize wr.heap.size = g2 at *
   clear LH HPr
   simp only [Act.put]
   refine WL.nil (hK30 _ _ ?_)
   refine wp_seq_k fun K31 hK31 => rgn ?_
   refine VlS (.pointer (some ⟨q, 0, none⟩)) ?_
   refine WL.row (by kernel_rfl) 36 (.tmp 16) rfl g2 rfl 36 (bytesA 32 h.f) _ HH2.out Tryz.underlying36 rfl (size36E _) ?_
   simp only [Act.put, pqA, pqB, pqC]
   refine WL.callF (by kernel_rfl) 13 _ _ rfl Tryz.in13 #[.pointer (some ⟨q, 0, none⟩), .agg (bytesA 32 h.f)] (by simp [Act.eval]) ?_
   refine (number_any K R x q mc uc wd (HP.out.q.rd.below IBd.out) h).mono ?_
   rintro e we ⟨rfl, hb⟩
   refine ⟨_, rfl, ?_⟩
   rw [hnv.out]
   have IBe := Keep.mk (belowC IBd.out hb)
   clear hb
   simp only [Act.put, pqA, pqB, pqC]
   refine VbF ?_
   refine WL.nil (hK31 _ _ ?_)
   refine wp_cond_false rfl ?_
   refine wp_skip ?_
   refine hK29 _ _ ?_
   refine rgn ?_
   refine VlS (.int .i64 ((i + 1 : Nat) : Int)) ?_
   refine VlS (.int .i64 ((i + 1 : Nat) : Int)) ?_
   refine WL.nil ?_
   refine ⟨⟨i + 1, fun zz => [.pointer (some ⟨p, 0, none⟩), .pointer (some ⟨q, 0, none⟩), .slice (some ⟨pb, po, none⟩) hs.length hc, undef, undef, undef, .bool false, u7, f 8, f 9, f 10, f 11, f 12, f 13, f 14, undef, .pointer (some ⟨g2, 0, none⟩), .slice (some ⟨w.heap.size, 0, none⟩) 0 0, .pointer (some ⟨q, 0, none⟩), .int .i64 (K.length : Int), .int .i64 (t : Int), .bool false, f 22, f 23, f 24, f 25, f 26, f 27, f 28, f 29, f 30, f 31, f 32, f 33, f 34, f 35, f 36, f 37, f 38, f 39, f 40, f 41, f 42, f 43, f 44, f 45, f 46, f 47, f 48, f 49, f 50, f 51, f 52, f 53, f 54, f 55, f 56, f 57, f 58, f 59, f 60, f 61, f 62, f 63, f 64, f 65, f 66, f 67, f 68, f 69, f 70, f 71, f 72, f 73, f 74, f 75, f 76, f 77, f 78, f 79, f 80, f 81, f 82, f 83, f 84, f 85, f 86, f 87, f 88, f 89, f 90, f 91, f 92, f 93, .slice (some ⟨pb, po, none⟩) hs.length hc, .int .i64 (hs.length : Int), .int .i64 ((i + 1 : Nat) : Int), .bool true, .pointer (some ⟨pb, po + i * 32, none⟩), .agg (bytesA 32 h.f), .pointer (some ⟨q, 0, none⟩), .agg (bytesA 32 h.f), .int .i64 nv, .bool false, .int .i64 ((i + 1 : Nat) : Int)].getD zz undef, rfl, by omega, IBe.out⟩, by simp [intOf]; omega⟩
  ·refine wp_seq_k fun K32 hK32 => rgn ?_
   refine VbF ?_
   refine WL.nil (hK32 _ _ ?_)
   refine wp_seq_k fun K33 hK33 => ?_
   refine wp_cond_false rfl ?_
   refine wp_exit ?_
   refine hK25 _ _ ?_
   refine wp_seq_k fun K34 hK34 => rgn ?_
   refine VbT ?_
   refine WL.nil (hK34 _ _ ?_)
   refine wp_ret ?_
   go_ret
   exact ⟨rfl, IB.out⟩
end Go.Proofs.YthlohkgdmfkpeaaGreat
