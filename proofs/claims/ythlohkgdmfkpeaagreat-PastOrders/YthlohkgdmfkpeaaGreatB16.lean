import Derived.Test.YthlohkgdmfkpeaaGreatB15
namespace Go.Proofs.YthlohkgdmfkpeaaGreat
open Go.RowKit
set_option linter.unusedSimpArgs false
set_option linter.unusedVariables false

theorem Tryz.in21 (w : World) (vs : Array Value) : (callFunc 21 vs).run Tryz.prog w = .ok (.enter 21 vs) w := by kernel_rfl
set_option maxRecDepth 16000 in
set_option maxHeartbeats 16000000 in
theorem orders_good (v0 : Value) (L : List EP) (v1 : Value) (ns : List Int) (w : World) (hs : ESl w v0 L) (hi : EIn w L) (hn : IRow w v1 ns) (hL : L.length ≤ 4398046511104) (hN : ns.length ≤ 17592186044416) (hG : Good (exs L)) : Calls Tryz.prog 6 #[v0, v1] w fun e w' => e = .returned (.bool true) ∧ Below w.heap.size w w' := by
 obtain ⟨sa, sc, rfl⟩ := hs.form
 obtain ⟨na, nc, rfl⟩ := hn.form
 have HS := Keep.mk hs
 have HI := Keep.mk hi
 have HN := Keep.mk hn
 have HL := Keep.mk hL
 have HNl := Keep.mk hN
 have HG := Keep.mk hG
 have HLn : Keep (L.length ≤ 4096) := ⟨by have := hG.len; rwa [exs_len] at this⟩
 clear hs hi hn hL hN hG
 go_enter Tryz.func6, Tryz.ntmps6
 refine wp_seq_k fun K1 hK1 => rgn ?_
 refine VlS (.bool false) ?_
 refine WL.nil (hK1 _ _ ?_)
 refine wp_seq_k fun K2 hK2 => ?_
 refine wp_seq_k fun K3 hK3 => rgn ?_
 refine WL.callF (by kernel_rfl) 9 _ _ rfl Tryz.in9 #[] (by simp) ?_
 refine (awake_any w).mono ?_
 rintro e w1 ⟨rfl, hb⟩
 refine ⟨_, rfl, ?_⟩
 have B1 := Keep.mk hb
 clear hb
 simp only [Act.put, pqA, pqB, pqC]
 refine VlS (.bool false) ?_
 refine WL.nil (hK3 _ _ ?_)
 refine wp_cond_false rfl ?_
 refine wp_skip ?_
 refine hK2 _ _ ?_
 refine wp_seq_k fun K4 hK4 => rgn ?_
 refine VlS (.slice sa L.length sc) ?_
 refine WL.callF (by kernel_rfl) 10 _ _ rfl Tryz.in10 #[.slice sa L.length sc] (by simp [Act.eval]) ?_
 refine (of_any _ L w1 (HS.out.below B1.out) (HI.out.below B1.out) HL.out).mono ?_
 rintro e w2 (⟨p, H, S, rfl, hP⟩ | ⟨-, i, hi, -, hne, -⟩ | ⟨-, -, i, hi, -, hne, -⟩)
 rotate_left
 ·exact absurd (HG.out.al i (by rw [exs_len]; exact hi)) hne
 ·exact absurd (HG.out.tg i (by rw [exs_len]; exact hi)) hne
 refine ⟨_, rfl, ?_⟩
 have HP := Keep.mk hP
 have B2 : Keep (Below w.heap.size w w2) := ⟨belowC B1.out hP.bel⟩
 have hHL : H.length = L.length := by rw [hP.len, exs_len]
 have HHL := Keep.mk hHL
 obtain ⟨v, mb, ub, hrd⟩ := hP.rd
 have HR := Keep.mk hrd
 have HTo := Keep.mk hP.topo
 clear hP hrd hHL
 simp only [Act.put, pqA, pqB, pqC]
 refine VlS (.tuple #[.pointer (some ⟨p, 0, none⟩), .int .i64 0, .int .i64 0]) ?_
 refine VlS (.pointer (some ⟨p, 0, none⟩)) ?_
 refine VlS (.int .i64 0) ?_
 refine VlS (.int .i64 0) ?_
 refine VlS (.pointer (some ⟨p, 0, none⟩)) ?_
 refine VlS (.int .i64 0) ?_
 refine VlS (.int .i64 0) ?_
 refine WL.nil (hK4 _ _ ?_)
 refine wp_seq_k fun K5 hK5 => ?_
 refine wp_seq_k fun K6 hK6 => rgn ?_
 refine VlS (.int .i64 0) ?_
 refine VlS (.bool false) ?_
 refine VlS (.bool false) ?_
 refine VlS (.pointer (some ⟨p, 0, none⟩)) ?_
 refine VlS (.bool false) ?_
 refine VlS (.bool false) ?_
 refine WL.nil (hK6 _ _ ?_)
 refine wp_cond_false rfl ?_
 refine wp_skip ?_
 refine hK5 _ _ ?_
 refine wp_seq_k fun K7 hK7 => ?_
 refine wp_seq_k fun K8 hK8 => rgn ?_
 refine VlS (.pointer (some ⟨p, 0, none⟩)) ?_
 refine WL.callF (by kernel_rfl) 18 _ _ rfl Tryz.in18 #[.pointer (some ⟨p, 0, none⟩)] (by simp [Act.eval]) ?_
 refine ((by have h := plen_any H S v p mb ub w2 HR.out; rw [HHL.out] at h; exact h : Calls Tryz.prog 18 #[.pointer (some ⟨p, 0, none⟩)] w2 _)).mono ?_
 rintro e wq ⟨rfl, hwq⟩
 refine ⟨_, rfl, ?_⟩
 rw [hwq]
 clear hwq
 simp only [Act.put, pqA, pqB, pqC]
 refine VlS (.slice sa L.length sc) ?_
 refine VlS (.int .i64 (L.length : Int)) ?_
 refine VlS (.bool false) ?_
 refine WL.nil (hK8 _ _ ?_)
 refine wp_cond_false rfl ?_
 refine wp_skip ?_
 refine hK7 _ _ ?_
 refine wp_seq_k fun K9 hK9 => rgn ?_
 refine WL.bs (by kernel_rfl) 23 0 _ rfl #[] (by simp) _ _ (bsE23 w2) ?_
 have HO3 := Keep.mk (owns_new w2 52 36)
 have B3 := Keep.mk (below_new w2 (.cells #[] 52))
 generalize w2.alloc (.cells #[] 52) = w3 at *
 simp only [Act.put, pqA, pqB, pqC]
 refine VlS (.slice (some ⟨w2.heap.size, 0, none⟩) 0 0) ?_
 refine WL.nil (hK9 _ _ ?_)
 refine wp_seq_k fun K10 hK10 => ?_
 refine wp_seq_k fun K11 hK11 => rgn ?_
 refine VlS (.slice sa L.length sc) ?_
 refine VlS (.int .i64 (L.length : Int)) ?_
 refine VlS (.int .i64 0) ?_
 refine WL.nil (hK11 _ _ ?_)
 refine wp_block ?_
 refine wp_loop (fun ac wr => ∃ (t : Nat) (f : Nat → Value) (u8 : Value), ac = { tmps := #[.slice sa L.length sc, .slice na ns.length nc, undef, undef, .bool false, .pointer (some ⟨p, 0, none⟩), .int .i64 0, .int .i64 0, u8, f 9, f 10, f 11, undef, undef, undef, undef, undef, undef, undef, undef, undef, undef, .bool true, .bool false, .tuple #[.pointer (some ⟨p, 0, none⟩), .int .i64 0, .int .i64 0], .slice sa L.length sc, .tuple #[.pointer (some ⟨p, 0, none⟩), .int .i64 0, .int .i64 0], .pointer (some ⟨p, 0, none⟩), .int .i64 0, .int .i64 0, .int .i64 0, .bool false, .bool false, .pointer (some ⟨p, 0, none⟩), .bool false, .bool false, undef, undef, undef, undef, undef, undef, .pointer (some ⟨p, 0, none⟩), .int .i64 (L.length : Int), .slice sa L.length sc, .int .i64 (L.length : Int), .bool false, .slice (some ⟨w2.heap.size, 0, none⟩) 0 0, .slice sa L.length sc, .int .i64 (L.length : Int), .int .i64 (t : Int), f 51, f 52, f 53, f 54, f 55, f 56, f 57, f 58, f 59, f 60, f 61, f 62, f 63, f 64, f 65, f 66, f 67, f 68, f 69, f 70, f 71, f 72, undef, undef, undef, undef, undef, undef, undef, undef, undef, undef, undef, undef, undef, undef, undef, undef, undef, undef, undef, undef, undef, undef, undef, undef, undef, undef, undef, undef, undef, undef, undef, undef, undef, undef, undef, undef, undef, undef, undef, undef, undef, undef, undef, undef, undef, undef, undef, undef, undef, undef, undef, undef, undef, undef, undef, undef, undef, undef, undef, undef, undef, undef, undef, undef, undef, undef, undef, undef, undef, undef, undef, undef, undef, undef, undef, undef, undef, undef, undef, undef, undef, undef, undef, undef, undef, undef, undef, undef, undef, undef, undef, undef, undef, undef, undef, undef, undef, undef, undef, undef, undef, undef], defers := [] } ∧ t ≤ L.length ∧ ∃ R, OwnL w2 wr u8 R ∧ exs R = (exs H).take t) (fun a _ => L.length - (intOf (a.tmps.getD 50 undef)).toNat) ⟨0, fun zz => [.slice sa L.length sc, .slice na ns.length nc, undef, undef, .bool false, .pointer (some ⟨p, 0, none⟩), .int .i64 0, .int .i64 0, .slice (some ⟨w2.heap.size, 0, none⟩) 0 0, undef, undef, undef, undef, undef, undef, undef, undef, undef, undef, undef, undef, undef, .bool true, .bool false, .tuple #[.pointer (some ⟨p, 0, none⟩), .int .i64 0, .int .i64 0], .slice sa L.length sc, .tuple #[.pointer (some ⟨p, 0, none⟩), .int .i64 0, .int .i64 0], .pointer (some ⟨p, 0, none⟩), .int .i64 0, .int .i64 0, .int .i64 0, .bool false, .bool false, .pointer (some ⟨p, 0, none⟩), .bool false, .bool false, undef, undef, undef, undef, undef, undef, .pointer (some ⟨p, 0, none⟩), .int .i64 (L.length : Int), .slice sa L.length sc, .int .i64 (L.length : Int), .bool false, .slice (some ⟨w2.heap.size, 0, none⟩) 0 0, .slice sa L.length sc, .int .i64 (L.length : Int), .int .i64 0, undef, undef, undef, undef, undef, undef, undef, undef, undef, undef, undef, undef, undef, undef, undef, undef, undef, undef, undef, undef, undef, undef, undef, undef, undef, undef, undef, undef, undef, undef, undef, undef, undef, undef, undef, undef, undef, undef, undef, undef, undef, undef, undef, undef, undef, undef, undef, undef, undef, undef, undef, undef, undef, undef, undef, undef, undef, undef, undef, undef, undef, undef, undef, undef, undef, undef, undef, undef, undef, undef, undef, undef, undef, undef, undef, undef, undef, undef, undef, undef, undef, undef, undef, undef, undef, undef, undef, undef, undef, undef, undef, undef, undef, undef, undef, undef, undef, undef, undef, undef, undef, undef, undef, undef, undef, undef, undef, undef, undef, undef, undef, undef, undef, undef, undef, undef, undef, undef, undef, undef, undef, undef, undef, undef].getD zz undef, .slice (some ⟨w2.heap.size, 0, none⟩) 0 0, rfl, by omega, [], ⟨HO3.out, fun q hq => by simp at hq, B3.out⟩, by simp [exs]⟩ ?_
 rintro ac wr ⟨t, f, u8, rfl, ht, R, hO, hE⟩
 have JO := Keep.mk hO
 have JE := Keep.mk hE
 clear hO hE
 have hRl : Keep (R.length = t) := ⟨by have := congrArg List.length JE.out; rw [exs_len, List.length_take, exs_len, HHL.out] at this; omega⟩
 by_cases htl : t < L.length
 ·have htl' : (t : Int) < (L.length : Int) := by omega
  have hwt : IntKind.i64.wrap ((t : Int) + 1) = ((t + 1 : Nat) : Int) := by rw [IntKind.wrap_i64]; have := HLn.out; omega
  have htH : t < H.length := by rw [HHL.out]; exact htl
  have JR := Keep.mk (HR.out.below JO.out.bel)
  refine wp_seq_k fun K12 hK12 => rgn ?_
  refine VlS (.bool true) ?_
  refine WL.nil (hK12 _ _ ?_)
  refine wp_seq_k fun K13 hK13 => ?_
  refine wp_cond_true rfl ?_
  refine wp_skip ?_
  refine hK13 _ _ ?_
  refine wp_seq_k fun K14 hK14 => ?_
  refine wp_block ?_
  refine wp_seq_k fun K15 hK15 => rgn ?_
  refine VlS (.int .i64 (t : Int)) ?_
  refine VlS (.int .i64 (t : Int)) ?_
  refine WL.nil (hK15 _ _ ?_)
  refine wp_seq_k fun K16 hK16 => rgn ?_
  refine VlS (.pointer (some ⟨p, 0, none⟩)) ?_
  refine VlS (.int .i64 (t : Int)) ?_
  refine WL.callF (by kernel_rfl) 19 _ _ rfl Tryz.in19 #[.pointer (some ⟨p, 0, none⟩), .int .i64 (t : Int)] (by simp [Act.eval]) ?_
  refine (entry_yes H S v p mb ub wr JR.out t htH).mono ?_
  rintro e wa ⟨p1, q1, rfl, hF⟩
  refine ⟨_, rfl, ?_⟩
  have FA := Keep.mk hF
  have JOa := Keep.mk (JO.out.below hF.bel)
  clear hF
  obtain ⟨x, hx⟩ : ∃ x, Keep (H[t].1 = x) := ⟨_, ⟨rfl⟩⟩
  rw [hx.out] at FA ⊢
  obtain ⟨pa, pc, hp1⟩ : ∃ a c, Keep (p1 = .slice a x.N.ps.length c) := by obtain ⟨a, c, e⟩ := FA.out.nd.ps.form; exact ⟨a, c, ⟨e⟩⟩
  obtain ⟨qa, qc, hq1⟩ : ∃ a c, Keep (q1 = .slice a x.N.ops.length c) := by obtain ⟨a, c, e⟩ := FA.out.nd.ops.form; exact ⟨a, c, ⟨e⟩⟩
  obtain ⟨ea, hea⟩ : ∃ a : Array Value, Keep (a = entA x.id.f x.N.au x.N.ck p1 q1) := ⟨_, ⟨rfl⟩⟩
  rw [← hea.out]
  simp only [Act.put, pqA, pqB, pqC]
  refine VlS (.tuple #[.agg ea, .int .i64 0]) ?_
  refine VlS (.agg ea) ?_
  refine VlS (.int .i64 0) ?_
  refine WL.new (by kernel_rfl) 52 rfl (entA (fun _ => 0) 0 0 (.slice none 0 0) (.slice none 0 0)) Tryz.new52 ?_
  obtain ⟨wb, hwn⟩ : ∃ wx, Keep (wx = wa.alloc (.cells (entA (fun _ => 0) 0 0 (.slice none 0 0) (.slice none 0 0)) 52)) := ⟨_, ⟨rfl⟩⟩
  rw [← hwn.out]
  have HZ : Keep (Blk wb wa.heap.size 52 (entA (fun _ => 0) 0 0 (.slice none 0 0) (.slice none 0 0))) := ⟨by rw [hwn.out]; exact Blk.new _ _ _⟩
  have LB : Keep (Below wa.heap.size wa wb) := ⟨by rw [hwn.out]; exact below_new _ _⟩
  clear hwn
  simp only [Act.put, pqA, pqB, pqC]
  refine WL.storeR (by kernel_rfl) 52 (.tmp 10) (.tmp 57) rfl wa.heap.size ea rfl rfl 52 _ HZ.out (by rw [hea.out]; exact sizeE _ _ _ _ _) (by rw [hea.out, entA_size, entA_size]) (by rw [hea.out]; exact entA_one _ _ _ _ _ (by rw [hp1.out]; rfl) (by rw [hq1.out]; rfl)) ?_
  have HA := Keep.mk (HZ.out.setRow ea)
  have LX : Keep (Below wa.heap.size wa (wb.setRow wa.heap.size ea)) := ⟨below_setRow LB.out (Nat.le_refl _) _⟩
  generalize wb.setRow wa.heap.size ea = wc at *
  have JOc := Keep.mk (JOa.out.below LX.out)
  have FAc := Keep.mk ((FA.out.early JO.out.bel).below LX.out)
  generalize wa.heap.size = ga at *
  clear HZ LB
  simp only [Act.put]
  refine VlS (.int .i64 0) ?_
  refine WL.nil (hK16 _ _ ?_)
  refine wp_seq_k fun K17 hK17 => ?_
  refine wp_seq_k fun K18 hK18 => rgn ?_
  refine VlS (.int .i64 0) ?_
  refine VlS (.bool false) ?_
  refine VlS (.bool false) ?_
  refine VlS (.pointer (some ⟨p, 0, none⟩)) ?_
  refine WL.row (by kernel_rfl) 52 (.tmp 10) rfl ga rfl 52 ea _ HA.out Tryz.underlying52 rfl (by rw [hea.out]; exact sizeE _ _ _ _ _) ?_
  simp only [Act.put, pqA, pqB, pqC]
  refine VlS (.int .i64 (t : Int)) ?_
  refine WL.callF (by kernel_rfl) 20 _ _ rfl Tryz.in20 #[.pointer (some ⟨p, 0, none⟩), .agg ea, .int .i64 (t : Int)] (by simp [Act.eval]) ?_
  refine ((by have h := parents_law H S v p mb ub wc (HR.out.below JOc.out.bel) x p1 q1 (t : Int) FAc.out.ps.row (by have := (ck_ok (HR.out.ok _ (List.getElem_mem htH))).2.2; rw [hx.out] at this; omega); rw [← hea.out, show parB (idsE (exs H)) x.N.ps (t : Int) = true from by have h2 := par_ok HTo.out HP.out.one.nd (i := t) (by rw [exs_len]; exact htH); rw [exs_get H t htH, hx.out] at h2; exact h2] at h; exact h : Calls Tryz.prog 20 #[.pointer (some ⟨p, 0, none⟩), .agg ea, .int .i64 (t : Int)] wc _)).mono ?_
  rintro e wd ⟨rfl, hb⟩
  refine ⟨_, rfl, ?_⟩
  have JOd := Keep.mk (JOc.out.below hb)
  have FAd := Keep.mk (FAc.out.below hb)
  have HAd := Keep.mk (HA.out.below hb HA.out.lt)
  clear hb
  simp only [Act.put, pqA, pqB, pqC]
  refine VlS (.bool false) ?_
  refine VlS (.bool false) ?_
  refine WL.nil (hK18 _ _ ?_)
  refine wp_cond_false rfl ?_
  refine wp_skip ?_
  refine hK17 _ _ ?_
  refine rgn ?_
  refine VlS (u8) ?_
  refine WL.row (by kernel_rfl) 52 (.tmp 10) rfl ga rfl 52 ea _ HAd.out Tryz.underlying52 rfl (by rw [hea.out]; exact sizeE _ _ _ _ _) ?_
  simp only [Act.put, pqA, pqB, pqC]
  have hbs := bsE1 x.id.f x.N.au x.N.ck pa qa x.N.ps.length x.N.ops.length pc qc wd
  rw [← hp1.out, ← hq1.out, ← hea.out] at hbs
  refine WL.bs (by kernel_rfl) 23 1 _ rfl #[(0, .agg ea)] (by simp [Act.eval]) _ _ hbs ?_
  clear hbs
  obtain ⟨we, hwe⟩ : ∃ wx, Keep (wx = wd.alloc (.cells ea 52)) := ⟨_, ⟨rfl⟩⟩
  rw [← hwe.out]
  have HBe : Keep (Blk we wd.heap.size 52 ea) := ⟨by rw [hwe.out]; exact Blk.new _ _ _⟩
  have LBe : Keep (Below wd.heap.size wd we) := ⟨by rw [hwe.out]; exact below_new _ _⟩
  clear hwe
  have JOe := Keep.mk (JOd.out.below LBe.out)
  have FAe := Keep.mk (FAd.out.below LBe.out)
  simp only [Act.put, pqA, pqB, pqC]
  obtain ⟨bt, hbt, hIb⟩ := infoC52
  refine WL.appG (by kernel_rfl) 23 52 36 bt _ Tryz.underlying23 hIb (by kernel_rfl) (by decide) (.tmp 68) (.tmp 70) rfl w2.heap.size _ ⟨wd.heap.size, 0, none⟩ R.length 1 1 _ (encE (x, p1, q1)) rfl rfl JOe.out.own (by rw [encE_len]) (fun j u hu => by rw [Addr.add_mid]; have h := blk_range HBe.out; rw [hea.out] at h; exact h j u hu) (fun u hu => by have h := entA_one x.id.f x.N.au x.N.ck p1 q1 (by rw [hp1.out]; rfl) (by rw [hq1.out]; rfl); rw [← Array.all_toList, List.all_eq_true] at h; exact h u hu) (by have := hRl.out; have := HLn.out; omega) hbt JOe.out.bel.size fun v3 wg h1 h2 => ?_
  have JOg := Keep.mk (JOe.out.snoc FAe.out h1 h2)
  clear h1 h2 hIb hbt
  simp only [Act.put, pqA, pqB, pqC]
  refine VlS (v3) ?_
  refine WL.nil (hK14 _ _ ?_)
  refine rgn ?_
  refine VlS (.int .i64 ((t + 1 : Nat) : Int)) ?_
  refine VlS (.int .i64 ((t + 1 : Nat) : Int)) ?_
  refine WL.nil ?_
  refine ⟨⟨t + 1, fun zz => [.slice sa L.length sc, .slice na ns.length nc, undef, undef, .bool false, .pointer (some ⟨p, 0, none⟩), .int .i64 0, .int .i64 0, v3, .int .i64 (t : Int), .pointer (some ⟨ga, 0, none⟩), .int .i64 0, undef, undef, undef, undef, undef, undef, undef, undef, undef, undef, .bool true, .bool false, .tuple #[.pointer (some ⟨p, 0, none⟩), .int .i64 0, .int .i64 0], .slice sa L.length sc, .tuple #[.pointer (some ⟨p, 0, none⟩), .int .i64 0, .int .i64 0], .pointer (some ⟨p, 0, none⟩), .int .i64 0, .int .i64 0, .int .i64 0, .bool false, .bool false, .pointer (some ⟨p, 0, none⟩), .bool false, .bool false, undef, undef, undef, undef, undef, undef, .pointer (some ⟨p, 0, none⟩), .int .i64 (L.length : Int), .slice sa L.length sc, .int .i64 (L.length : Int), .bool false, .slice (some ⟨w2.heap.size, 0, none⟩) 0 0, .slice sa L.length sc, .int .i64 (L.length : Int), .int .i64 ((t + 1 : Nat) : Int), .bool true, .int .i64 (t : Int), .tuple #[.agg ea, .int .i64 0], .pointer (some ⟨p, 0, none⟩), .int .i64 (t : Int), .tuple #[.agg ea, .int .i64 0], .agg ea, .int .i64 0, .int .i64 0, .bool false, .bool false, .pointer (some ⟨p, 0, none⟩), .agg ea, .int .i64 (t : Int), .bool true, .bool false, .bool false, u8, .agg ea, .slice (some ⟨wd.heap.size, 0, none⟩) 1 1, v3, .int .i64 ((t + 1 : Nat) : Int), undef, undef, undef, undef, undef, undef, undef, undef, undef, undef, undef, undef, undef, undef, undef, undef, undef, undef, undef, undef, undef, undef, undef, undef, undef, undef, undef, undef, undef, undef, undef, undef, undef, undef, undef, undef, undef, undef, undef, undef, undef, undef, undef, undef, undef, undef, undef, undef, undef, undef, undef, undef, undef, undef, undef, undef, undef, undef, undef, undef, undef, undef, undef, undef, undef, undef, undef, undef, undef, undef, undef, undef, undef, undef, undef, undef, undef, undef, undef, undef, undef, undef, undef, undef, undef, undef, undef, undef, undef, undef, undef, undef, undef, undef, undef, undef, undef, undef, undef, undef, undef, undef].getD zz undef, v3, rfl, by omega, R ++ [(x, p1, q1)], JOg.out, ?_⟩, by simp [intOf]; omega⟩
  rw [List.take_succ_eq_append_getElem (by rw [exs_len]; exact htH), ← JE.out, exs_get H t htH, hx.out]
  simp only [exs, List.map_append, List.map_cons, List.map_nil]
 ·have hte : t = L.length := by omega
  subst hte
  have hRH : Keep (exs R = exs H) := ⟨by rw [JE.out, List.take_of_length_le (by rw [exs_len, HHL.out]; exact Nat.le_refl _)]⟩
  obtain ⟨ra, rc, hu8⟩ : ∃ a c, u8 = .slice a R.length c := (owns_sl JO.out.own).form
  subst hu8
  rw [hRl.out] at JO ⊢
  have OR := JO
  clear JO JE
  refine wp_seq_k fun K19 hK19 => rgn ?_
  refine VlS (.bool false) ?_
  refine WL.nil (hK19 _ _ ?_)
  refine wp_seq_k fun K20 hK20 => ?_
  refine wp_cond_false rfl ?_
  refine wp_exit ?_
  refine hK10 _ _ ?_
  refine wp_seq_k fun K21 hK21 => ?_
  refine wp_seq_k fun K22 hK22 => rgn ?_
  refine VlS (.slice ra L.length rc) ?_
  refine VlS (.int .i64 (L.length : Int)) ?_
  refine VlS (.int .i64 0) ?_
  refine WL.nil (hK22 _ _ ?_)
  refine wp_block ?_
  refine wp_loop (fun ac wb_ => ∃ (i : Nat) (fb : Nat → Value), ac = { tmps := #[.slice sa L.length sc, .slice na ns.length nc, undef, undef, .bool false, .pointer (some ⟨p, 0, none⟩), .int .i64 0, .int .i64 0, .slice ra L.length rc, f 9, f 10, f 11, fb 12, fb 13, undef, undef, undef, undef, undef, undef, undef, undef, .bool true, .bool false, .tuple #[.pointer (some ⟨p, 0, none⟩), .int .i64 0, .int .i64 0], .slice sa L.length sc, .tuple #[.pointer (some ⟨p, 0, none⟩), .int .i64 0, .int .i64 0], .pointer (some ⟨p, 0, none⟩), .int .i64 0, .int .i64 0, .int .i64 0, .bool false, .bool false, .pointer (some ⟨p, 0, none⟩), .bool false, .bool false, undef, undef, undef, undef, undef, undef, .pointer (some ⟨p, 0, none⟩), .int .i64 (L.length : Int), .slice sa L.length sc, .int .i64 (L.length : Int), .bool false, .slice (some ⟨w2.heap.size, 0, none⟩) 0 0, .slice sa L.length sc, .int .i64 (L.length : Int), .int .i64 (L.length : Int), .bool false, f 52, f 53, f 54, f 55, f 56, f 57, f 58, f 59, f 60, f 61, f 62, f 63, f 64, f 65, f 66, f 67, f 68, f 69, f 70, f 71, f 72, .slice ra L.length rc, .int .i64 (L.length : Int), .int .i64 (i : Int), fb 76, fb 77, fb 78, fb 79, fb 80, fb 81, fb 82, fb 83, fb 84, fb 85, fb 86, fb 87, fb 88, fb 89, fb 90, fb 91, fb 92, fb 93, fb 94, fb 95, fb 96, fb 97, fb 98, fb 99, fb 100, fb 101, fb 102, fb 103, fb 104, fb 105, fb 106, fb 107, undef, undef, undef, undef, undef, undef, undef, undef, undef, undef, undef, undef, undef, undef, undef, undef, undef, undef, undef, undef, undef, undef, undef, undef, undef, undef, undef, undef, undef, undef, undef, undef, undef, undef, undef, undef, undef, undef, undef, undef, undef, undef, undef, undef, undef, undef, undef, undef, undef, undef, undef, undef, undef, undef, undef, undef, undef, undef, undef, undef, undef, undef, undef, undef, undef, undef, undef], defers := [] } ∧ i ≤ L.length ∧ OwnL w2 wb_ (.slice ra L.length rc) R) (fun a _ => L.length - (intOf (a.tmps.getD 75 undef)).toNat) ⟨0, fun zz => [.slice sa L.length sc, .slice na ns.length nc, undef, undef, .bool false, .pointer (some ⟨p, 0, none⟩), .int .i64 0, .int .i64 0, .slice ra L.length rc, f 9, f 10, f 11, undef, undef, undef, undef, undef, undef, undef, undef, undef, undef, .bool true, .bool false, .tuple #[.pointer (some ⟨p, 0, none⟩), .int .i64 0, .int .i64 0], .slice sa L.length sc, .tuple #[.pointer (some ⟨p, 0, none⟩), .int .i64 0, .int .i64 0], .pointer (some ⟨p, 0, none⟩), .int .i64 0, .int .i64 0, .int .i64 0, .bool false, .bool false, .pointer (some ⟨p, 0, none⟩), .bool false, .bool false, undef, undef, undef, undef, undef, undef, .pointer (some ⟨p, 0, none⟩), .int .i64 (L.length : Int), .slice sa L.length sc, .int .i64 (L.length : Int), .bool false, .slice (some ⟨w2.heap.size, 0, none⟩) 0 0, .slice sa L.length sc, .int .i64 (L.length : Int), .int .i64 (L.length : Int), .bool false, f 52, f 53, f 54, f 55, f 56, f 57, f 58, f 59, f 60, f 61, f 62, f 63, f 64, f 65, f 66, f 67, f 68, f 69, f 70, f 71, f 72, .slice ra L.length rc, .int .i64 (L.length : Int), .int .i64 0, undef, undef, undef, undef, undef, undef, undef, undef, undef, undef, undef, undef, undef, undef, undef, undef, undef, undef, undef, undef, undef, undef, undef, undef, undef, undef, undef, undef, undef, undef, undef, undef, undef, undef, undef, undef, undef, undef, undef, undef, undef, undef, undef, undef, undef, undef, undef, undef, undef, undef, undef, undef, undef, undef, undef, undef, undef, undef, undef, undef, undef, undef, undef, undef, undef, undef, undef, undef, undef, undef, undef, undef, undef, undef, undef, undef, undef, undef, undef, undef, undef, undef, undef, undef, undef, undef, undef, undef, undef, undef, undef, undef, undef, undef, undef, undef, undef, undef, undef].getD zz undef, rfl, by omega, OR.out⟩ ?_
  rintro ac wb_ ⟨i, fb, rfl, hi, hO⟩
  have BO := Keep.mk hO
  clear hO
  by_cases hil : i < L.length
  ·have hil' : (i : Int) < (L.length : Int) := by omega
   have hi0 : (0 : Int) ≤ (i : Int) := by omega
   have hwi : IntKind.i64.wrap ((i : Int) + 1) = ((i + 1 : Nat) : Int) := by rw [IntKind.wrap_i64]; have := HLn.out; omega
   have hiR : i < R.length := by rw [hRl.out]; exact hil
   have hiH : i < H.length := by rw [HHL.out]; exact hil
   obtain ⟨rb, hra⟩ : ∃ rb, ra = some ⟨rb, 0, none⟩ := by
    rcases BO.out.own.2 with ⟨h, _⟩ | ⟨g, cap, cur, h, _⟩
    ·injection h with h1 h2; omega
    ·injection h with h1; exact ⟨g, h1⟩
   subst hra
   refine wp_seq_k fun K23 hK23 => rgn ?_
   refine VlS (.bool true) ?_
   refine WL.nil (hK23 _ _ ?_)
   refine wp_seq_k fun K24 hK24 => ?_
   refine wp_cond_true rfl ?_
   refine wp_skip ?_
   refine hK24 _ _ ?_
   refine wp_seq_k fun K25 hK25 => ?_
   refine wp_block ?_
   refine wp_seq_k fun K26 hK26 => rgn ?_
   refine VlS (.int .i64 (i : Int)) ?_
   refine VlS (.int .i64 (i : Int)) ?_
   refine WL.nil (hK26 _ _ ?_)
   refine wp_seq_k fun K27 hK27 => rgn ?_
   refine VlS (.int .i64 (i : Int)) ?_
   refine VlS (.int .i64 ((i + 1 + (0 : Nat) : Nat) : Int)) ?_
   refine VlS (.int .i64 ((i + 1 + (0 : Nat) : Nat) : Int)) ?_
   refine WL.nil (hK27 _ _ ?_)
   refine wp_block ?_
   refine wp_loop (fun ac ws => ∃ (u : Nat) (fc : Nat → Value), ac = { tmps := #[.slice sa L.length sc, .slice na ns.length nc, undef, undef, .bool false, .pointer (some ⟨p, 0, none⟩), .int .i64 0, .int .i64 0, .slice (some ⟨rb, 0, none⟩) L.length rc, f 9, f 10, f 11, .int .i64 (i : Int), .int .i64 ((i + 1 + u : Nat) : Int), undef, undef, undef, undef, undef, undef, undef, undef, .bool true, .bool false, .tuple #[.pointer (some ⟨p, 0, none⟩), .int .i64 0, .int .i64 0], .slice sa L.length sc, .tuple #[.pointer (some ⟨p, 0, none⟩), .int .i64 0, .int .i64 0], .pointer (some ⟨p, 0, none⟩), .int .i64 0, .int .i64 0, .int .i64 0, .bool false, .bool false, .pointer (some ⟨p, 0, none⟩), .bool false, .bool false, undef, undef, undef, undef, undef, undef, .pointer (some ⟨p, 0, none⟩), .int .i64 (L.length : Int), .slice sa L.length sc, .int .i64 (L.length : Int), .bool false, .slice (some ⟨w2.heap.size, 0, none⟩) 0 0, .slice sa L.length sc, .int .i64 (L.length : Int), .int .i64 (L.length : Int), .bool false, f 52, f 53, f 54, f 55, f 56, f 57, f 58, f 59, f 60, f 61, f 62, f 63, f 64, f 65, f 66, f 67, f 68, f 69, f 70, f 71, f 72, .slice (some ⟨rb, 0, none⟩) L.length rc, .int .i64 (L.length : Int), .int .i64 (i : Int), .bool true, .int .i64 (i : Int), .int .i64 (i : Int), .int .i64 ((i + 1 + (0 : Nat) : Nat) : Int), fc 80, fc 81, fc 82, fc 83, fc 84, fc 85, fc 86, fc 87, fc 88, fc 89, fc 90, fc 91, fc 92, fc 93, fc 94, fc 95, fc 96, fc 97, fc 98, fc 99, fc 100, fc 101, fc 102, fc 103, fc 104, fc 105, fc 106, fb 107, undef, undef, undef, undef, undef, undef, undef, undef, undef, undef, undef, undef, undef, undef, undef, undef, undef, undef, undef, undef, undef, undef, undef, undef, undef, undef, undef, undef, undef, undef, undef, undef, undef, undef, undef, undef, undef, undef, undef, undef, undef, undef, undef, undef, undef, undef, undef, undef, undef, undef, undef, undef, undef, undef, undef, undef, undef, undef, undef, undef, undef, undef, undef, undef, undef, undef, undef], defers := [] } ∧ OwnL w2 ws (.slice (some ⟨rb, 0, none⟩) L.length rc) R) (fun a _ => L.length - (intOf (a.tmps.getD 13 undef)).toNat) ⟨0, fun zz => [.slice sa L.length sc, .slice na ns.length nc, undef, undef, .bool false, .pointer (some ⟨p, 0, none⟩), .int .i64 0, .int .i64 0, .slice (some ⟨rb, 0, none⟩) L.length rc, f 9, f 10, f 11, .int .i64 (i : Int), .int .i64 ((i + 1 + (0 : Nat) : Nat) : Int), undef, undef, undef, undef, undef, undef, undef, undef, .bool true, .bool false, .tuple #[.pointer (some ⟨p, 0, none⟩), .int .i64 0, .int .i64 0], .slice sa L.length sc, .tuple #[.pointer (some ⟨p, 0, none⟩), .int .i64 0, .int .i64 0], .pointer (some ⟨p, 0, none⟩), .int .i64 0, .int .i64 0, .int .i64 0, .bool false, .bool false, .pointer (some ⟨p, 0, none⟩), .bool false, .bool false, undef, undef, undef, undef, undef, undef, .pointer (some ⟨p, 0, none⟩), .int .i64 (L.length : Int), .slice sa L.length sc, .int .i64 (L.length : Int), .bool false, .slice (some ⟨w2.heap.size, 0, none⟩) 0 0, .slice sa L.length sc, .int .i64 (L.length : Int), .int .i64 (L.length : Int), .bool false, f 52, f 53, f 54, f 55, f 56, f 57, f 58, f 59, f 60, f 61, f 62, f 63, f 64, f 65, f 66, f 67, f 68, f 69, f 70, f 71, f 72, .slice (some ⟨rb, 0, none⟩) L.length rc, .int .i64 (L.length : Int), .int .i64 (i : Int), .bool true, .int .i64 (i : Int), .int .i64 (i : Int), .int .i64 ((i + 1 + (0 : Nat) : Nat) : Int), fb 80, fb 81, fb 82, fb 83, fb 84, fb 85, fb 86, fb 87, fb 88, fb 89, fb 90, fb 91, fb 92, fb 93, fb 94, fb 95, fb 96, fb 97, fb 98, fb 99, fb 100, fb 101, fb 102, fb 103, fb 104, fb 105, fb 106, fb 107, undef, undef, undef, undef, undef, undef, undef, undef, undef, undef, undef, undef, undef, undef, undef, undef, undef, undef, undef, undef, undef, undef, undef, undef, undef, undef, undef, undef, undef, undef, undef, undef, undef, undef, undef, undef, undef, undef, undef, undef, undef, undef, undef, undef, undef, undef, undef, undef, undef, undef, undef, undef, undef, undef, undef, undef, undef, undef, undef, undef, undef, undef, undef, undef, undef, undef, undef].getD zz undef, rfl, BO.out⟩ ?_
   rintro ac ws ⟨u, fc, rfl, hO2⟩
   have CO := Keep.mk hO2
   clear hO2
   obtain ⟨k, hk⟩ : ∃ k : Nat, Keep (k = i + 1 + u) := ⟨_, ⟨rfl⟩⟩
   rw [← hk.out]
   by_cases hkl : k < L.length
   ·have hkl' : (k : Int) < (L.length : Int) := by omega
    have hk0 : (0 : Int) ≤ (k : Int) := by omega
    have hwk : IntKind.i64.wrap ((k : Int) + 1) = ((i + 1 + (u + 1) : Nat) : Int) := by rw [IntKind.wrap_i64]; have := HLn.out; have := hk.out; omega
    have hkR : k < R.length := by rw [hRl.out]; exact hkl
    have hkH : k < H.length := by rw [HHL.out]; exact hkl
    have hik : i < k := by have := hk.out; omega
    have hgr : ∀ j (hj : j < R.length), ws.rangeAt rb (j * 36) (encE R[j]) := fun j hj => by
     obtain ⟨b, off, e, h⟩ := esl_range CO.out.sl (t := j) hj
     injection e with e
     injection e with e1 e2
     subst e1 e2
     rwa [Nat.zero_add] at h
    have hxk : Keep (R[k].1 = (exs H)[k]'(by rw [exs_len]; exact hkH)) := ⟨by have h1 := exs_get? R k hkR; rw [hRH.out, List.getElem?_eq_getElem (by rw [exs_len]; exact hkH)] at h1; exact (Option.some.inj h1).symm⟩
    have hxi : Keep (R[i].1 = (exs H)[i]'(by rw [exs_len]; exact hiH)) := ⟨by have h1 := exs_get? R i hiR; rw [hRH.out, List.getElem?_eq_getElem (by rw [exs_len]; exact hiH)] at h1; exact (Option.some.inj h1).symm⟩
    obtain ⟨ek, hek⟩ : ∃ a : Array Value, Keep (a = entA R[k].1.id.f R[k].1.N.au R[k].1.N.ck R[k].2.1 R[k].2.2) := ⟨_, ⟨rfl⟩⟩
    refine wp_seq_k fun K28 hK28 => ?_
    refine wp_seq_k fun K29 hK29 => rgn ?_
    refine VlS (.int .i64 (k : Int)) ?_
    refine VlS (.slice (some ⟨rb, 0, none⟩) L.length rc) ?_
    refine VlS (.int .i64 (L.length : Int)) ?_
    refine VlS (.bool true) ?_
    refine WL.nil (hK29 _ _ ?_)
    refine wp_cond_true rfl ?_
    refine wp_skip ?_
    refine hK28 _ _ ?_
    refine wp_seq_k fun K30 hK30 => ?_
    refine wp_block ?_
    refine wp_seq_k fun K31 hK31 => ?_
    have hSS : Keep (∀ wz, Below ws.heap.size ws wz → (fun wz => wz.rangeAt rb (k * 36) (bytesA 32 R[k].1.id.f).toList ∧ wz.rangeAt rb (i * 36) (bytesA 32 R[i].1.id.f).toList ∧ wz.rangeAt rb (k * 36) ek.toList) wz) := ⟨fun wz hb => by
     have hrb : rb < ws.heap.size := owns_lt CO.out.own rb rfl
     have h1 := range_below (hgr k hkR) hb hrb
     have h2 := range_below (hgr i hiR) hb hrb
     exact ⟨ent_range_id h1, ent_range_id h2, by rw [hek.out]; exact h1⟩⟩
    have hB0 : Keep (Below ws.heap.size ws ws.drew) := ⟨(Below.refl _ _).drew⟩
    by_cases hc : cf R[k].1.id R[i].1.id ≤ 0
    ·obtain ⟨cc, hcc⟩ : ∃ c, Keep (cf R[k].1.id R[i].1.id = c) := ⟨_, ⟨rfl⟩⟩
     rw [hcc.out] at hc
     refine wp_region_held_drew (S := fun wz => wz.rangeAt rb (k * 36) (bytesA 32 R[k].1.id.f).toList ∧ wz.rangeAt rb (i * 36) (bytesA 32 R[i].1.id.f).toList ∧ wz.rangeAt rb (k * 36) ek.toList) (by kernel_rfl) (hSS.out _ hB0.out) (fun hHeld => ?_)
     refine tkS (i := 0) (oi := ⟨some 86, Op.move (Operand.tmp 8), 23, _, _, none⟩) (v := .slice (some ⟨rb, 0, none⟩) L.length rc) rfl (Or.inl ⟨by rfl, fun w hS => by clear hS; go_simp⟩) hHeld ?_
     refine tkS (i := 1) (oi := ⟨some 87, Op.move (Operand.tmp 13), 3, _, _, none⟩) (v := .int .i64 (k : Int)) rfl (Or.inl ⟨by rfl, fun w hS => by clear hS; go_simp⟩) hHeld ?_
     refine tkS (i := 2) (oi := ⟨some 88, Op.indexAddr 23 (Operand.tmp 86) (Operand.tmp 87), 0, _, _, none⟩) (v := .pointer (some ⟨rb, k * 36, none⟩)) rfl (Or.inl ⟨by rfl, fun w hS => by clear hS; go_simp⟩) hHeld ?_
     refine tkS (i := 3) (oi := ⟨some 89, Op.fieldAddr 52 (Operand.tmp 88) 0, 0, _, _, none⟩) (v := .pointer (some ⟨rb, k * 36, none⟩)) rfl (Or.inl ⟨by rfl, fun w hS => by clear hS; go_simp⟩) hHeld ?_
     refine tkS (i := 4) (oi := ⟨some 90, Op.load 36 (Operand.tmp 89), 36, _, _, none⟩) (v := .agg (bytesA 32 R[k].1.id.f)) rfl (yieldsIf_ld (by rfl) (Operand.tmp 89) 36 rfl rb (k * 36) rfl (bytesA 32 R[k].1.id.f) _ Tryz.underlying36 rfl (size36E _) fun w hS => hS.1) hHeld ?_
     refine tkS (i := 5) (oi := ⟨some 91, Op.move (Operand.tmp 8), 23, _, _, none⟩) (v := .slice (some ⟨rb, 0, none⟩) L.length rc) rfl (Or.inl ⟨by rfl, fun w hS => by clear hS; go_simp⟩) hHeld ?_
     refine tkS (i := 6) (oi := ⟨some 92, Op.move (Operand.tmp 12), 3, _, _, none⟩) (v := .int .i64 (i : Int)) rfl (Or.inl ⟨by rfl, fun w hS => by clear hS; go_simp⟩) hHeld ?_
     refine tkS (i := 7) (oi := ⟨some 93, Op.indexAddr 23 (Operand.tmp 91) (Operand.tmp 92), 0, _, _, none⟩) (v := .pointer (some ⟨rb, i * 36, none⟩)) rfl (Or.inl ⟨by rfl, fun w hS => by clear hS; go_simp⟩) hHeld ?_
     refine tkS (i := 8) (oi := ⟨some 94, Op.fieldAddr 52 (Operand.tmp 93) 0, 0, _, _, none⟩) (v := .pointer (some ⟨rb, i * 36, none⟩)) rfl (Or.inl ⟨by rfl, fun w hS => by clear hS; go_simp⟩) hHeld ?_
     refine tkS (i := 9) (oi := ⟨some 95, Op.load 36 (Operand.tmp 94), 36, _, _, none⟩) (v := .agg (bytesA 32 R[i].1.id.f)) rfl (yieldsIf_ld (by rfl) (Operand.tmp 94) 36 rfl rb (i * 36) rfl (bytesA 32 R[i].1.id.f) _ Tryz.underlying36 rfl (size36E _) fun w hS => hS.2.1) hHeld ?_
     refine wpAnyH_ready (rs := [10]) (by kernel_rfl) (by simp) ?_
     refine AllReadyH.cons (o := ⟨some 96, Op.call { callee := Callee.value (Operand.func 21), args := #[Operand.tmp 90, Operand.tmp 95], argTypes := #[36, 36] }, 3, _, _, none⟩) rfl (fun K hK => ?_) AllReadyH.nil
     rw [if_pos (by rfl)]
     refine wp_callF 21 _ _ rfl Tryz.in21 #[.agg (bytesA 32 R[k].1.id.f), .agg (bytesA 32 R[i].1.id.f)] (by simp [Act.eval]) (fun uu w' => uu = .int .i64 cc ∧ Below ws.drew.heap.size ws.drew w') ((Nd.Sh.refCompare_any R[k].1.id R[i].1.id ws.drew).mono fun e w' h => ⟨_, h.1, congrArg (Value.int .i64) hcc.out, by obtain ⟨q, os, e⟩ := h.2; rw [e]; exact grow_below _ _ _⟩) ?_
     rintro _ wt ⟨rfl, hbt⟩
     have hB1 : Keep (Below ws.heap.size ws wt) := ⟨belowC hB0.out hbt⟩
     refine hK _ _ (hSS.out _ hB1.out) fun hH1 => ?_
     clear hK hbt
     simp only [Act.put, pqA, pqB, pqC]
     refine tkS (i := 11) (oi := ⟨some 97, Op.binOp BinOp.leq 3 (Operand.tmp 96) (Operand.const (Value.int IntKind.i64 0)) 3, 4, _, _, none⟩) (v := .bool true) rfl (Or.inl ⟨by rfl, fun w hS => by clear hS; go_simp⟩) hH1 ?_
     refine tkS (i := 12) (oi := ⟨some 98, Op.move (Operand.tmp 97), 4, _, _, none⟩) (v := .bool true) rfl (Or.inl ⟨by rfl, fun w hS => by clear hS; go_simp⟩) hH1 ?_
     refine tkS (i := 13) (oi := ⟨some 99, Op.move (Operand.tmp 5), 25, _, _, some (12, true)⟩) (v := .pointer (some ⟨p, 0, none⟩)) rfl (Or.inl ⟨by rfl, fun w hS => by clear hS; go_simp⟩) hH1 ?_
     refine tkS (i := 14) (oi := ⟨some 100, Op.move (Operand.tmp 8), 23, _, _, some (12, true)⟩) (v := .slice (some ⟨rb, 0, none⟩) L.length rc) rfl (Or.inl ⟨by rfl, fun w hS => by clear hS; go_simp⟩) hH1 ?_
     refine tkS (i := 15) (oi := ⟨some 101, Op.move (Operand.tmp 13), 3, _, _, some (12, true)⟩) (v := .int .i64 (k : Int)) rfl (Or.inl ⟨by rfl, fun w hS => by clear hS; go_simp⟩) hH1 ?_
     refine tkS (i := 16) (oi := ⟨some 102, Op.indexAddr 23 (Operand.tmp 100) (Operand.tmp 101), 0, _, _, some (12, true)⟩) (v := .pointer (some ⟨rb, k * 36, none⟩)) rfl (Or.inl ⟨by rfl, fun w hS => by clear hS; go_simp⟩) hH1 ?_
     refine tkS (i := 17) (oi := ⟨some 103, Op.load 52 (Operand.tmp 102), 52, _, _, some (12, true)⟩) (v := .agg ek) rfl (yieldsIf_ld (by rfl) (Operand.tmp 102) 52 rfl rb (k * 36) rfl ek _ Tryz.underlying52 rfl (by rw [hek.out]; exact sizeE _ _ _ _ _) fun w hS => hS.2.2) hH1 ?_
     refine tkS (i := 18) (oi := ⟨some 104, Op.move (Operand.tmp 12), 3, _, _, some (12, true)⟩) (v := .int .i64 (i : Int)) rfl (Or.inl ⟨by rfl, fun w hS => by clear hS; go_simp⟩) hH1 ?_
     refine wpAnyH_ready (rs := [19]) (by kernel_rfl) (by simp) ?_
     refine AllReadyH.cons (o := ⟨some 105, Op.call { callee := Callee.value (Operand.func 20), args := #[Operand.tmp 99, Operand.tmp 103, Operand.tmp 104], argTypes := #[25, 52, 3] }, 4, _, _, some (12, true)⟩) rfl (fun K hK => ?_) AllReadyH.nil
     rw [if_pos (by rfl)]
     refine wp_callF 20 _ _ rfl Tryz.in20 #[.pointer (some ⟨p, 0, none⟩), .agg ek, .int .i64 (i : Int)] (by simp [Act.eval]) (fun uu w' => uu = .bool false ∧ Below wt.heap.size wt w') ((by
      have hqk := (CO.out.ents R[k] (List.getElem_mem hkR)).below hB1.out
      have h := parents_law H S v p mb ub wt (HR.out.below (belowC CO.out.bel hB1.out)) R[k].1 R[k].2.1 R[k].2.2 (i : Int) hqk.ps.row (by have := (ck_ok (HR.out.ok _ (List.getElem_mem hkH))).2.2; rw [hxk.out, exs_get H k hkH]; omega)
      rw [← hek.out, show parB (idsE (exs H)) R[k].1.N.ps (i : Int) = false from by rw [hxk.out]; exact par_no HG.out HP.out.one HP.out.sub hik (by rw [exs_len]; exact hkH) (by rw [← hxk.out, ← hxi.out, hcc.out]; exact hc)] at h
      exact h : Calls Tryz.prog 20 #[.pointer (some ⟨p, 0, none⟩), .agg ek, .int .i64 (i : Int)] wt fun e w' => e = .returned (.bool false) ∧ Below wt.heap.size wt w').mono fun e w' h => ⟨_, h.1, rfl, h.2⟩) ?_
     rintro _ wu ⟨rfl, hbu⟩
     have hB2 : Keep (Below ws.heap.size ws wu) := ⟨belowC hB1.out hbu⟩
     refine hK _ _ (hSS.out _ hB2.out) fun hH2 => ?_
     clear hK hbu
     simp only [Act.put, pqA, pqB, pqC]
     refine tkS (i := 20) (oi := ⟨some 106, Op.pick (Operand.tmp 98) (Operand.tmp 105) (Operand.const (Value.bool false)), 4, _, _, none⟩) (v := .bool false) rfl (Or.inl ⟨by rfl, fun w hS => by clear hS; go_simp⟩) hH2 ?_
     refine wpAnyH_done (by kernel_rfl) ?_ _
     refine hK31 _ _ ?_
     refine wp_cond_false rfl ?_
     refine wp_skip ?_
     refine hK30 _ _ ?_
     refine rgn ?_
     refine VlS (.int .i64 (k : Int)) ?_
     refine VlS (.int .i64 ((i + 1 + (u + 1) : Nat) : Int)) ?_
     refine VlS (.int .i64 ((i + 1 + (u + 1) : Nat) : Int)) ?_
     refine WL.nil ?_
     refine ⟨⟨u + 1, fun zz => [.slice sa L.length sc, .slice na ns.length nc, undef, undef, .bool false, .pointer (some ⟨p, 0, none⟩), .int .i64 0, .int .i64 0, .slice (some ⟨rb, 0, none⟩) L.length rc, f 9, f 10, f 11, .int .i64 (i : Int), .int .i64 ((i + 1 + (u + 1) : Nat) : Int), undef, undef, undef, undef, undef, undef, undef, undef, .bool true, .bool false, .tuple #[.pointer (some ⟨p, 0, none⟩), .int .i64 0, .int .i64 0], .slice sa L.length sc, .tuple #[.pointer (some ⟨p, 0, none⟩), .int .i64 0, .int .i64 0], .pointer (some ⟨p, 0, none⟩), .int .i64 0, .int .i64 0, .int .i64 0, .bool false, .bool false, .pointer (some ⟨p, 0, none⟩), .bool false, .bool false, undef, undef, undef, undef, undef, undef, .pointer (some ⟨p, 0, none⟩), .int .i64 (L.length : Int), .slice sa L.length sc, .int .i64 (L.length : Int), .bool false, .slice (some ⟨w2.heap.size, 0, none⟩) 0 0, .slice sa L.length sc, .int .i64 (L.length : Int), .int .i64 (L.length : Int), .bool false, f 52, f 53, f 54, f 55, f 56, f 57, f 58, f 59, f 60, f 61, f 62, f 63, f 64, f 65, f 66, f 67, f 68, f 69, f 70, f 71, f 72, .slice (some ⟨rb, 0, none⟩) L.length rc, .int .i64 (L.length : Int), .int .i64 (i : Int), .bool true, .int .i64 (i : Int), .int .i64 (i : Int), .int .i64 ((i + 1 + (0 : Nat) : Nat) : Int), .int .i64 (k : Int), .slice (some ⟨rb, 0, none⟩) L.length rc, .int .i64 (L.length : Int), .bool true, .int .i64 (k : Int), .int .i64 ((i + 1 + (u + 1) : Nat) : Int), .slice (some ⟨rb, 0, none⟩) L.length rc, .int .i64 (k : Int), .pointer (some ⟨rb, k * 36, none⟩), .pointer (some ⟨rb, k * 36, none⟩), .agg (bytesA 32 R[k].1.id.f), .slice (some ⟨rb, 0, none⟩) L.length rc, .int .i64 (i : Int), .pointer (some ⟨rb, i * 36, none⟩), .pointer (some ⟨rb, i * 36, none⟩), .agg (bytesA 32 R[i].1.id.f), .int .i64 cc, .bool true, .bool true, .pointer (some ⟨p, 0, none⟩), .slice (some ⟨rb, 0, none⟩) L.length rc, .int .i64 (k : Int), .pointer (some ⟨rb, k * 36, none⟩), .agg ek, .int .i64 (i : Int), .bool false, .bool false, fb 107, undef, undef, undef, undef, undef, undef, undef, undef, undef, undef, undef, undef, undef, undef, undef, undef, undef, undef, undef, undef, undef, undef, undef, undef, undef, undef, undef, undef, undef, undef, undef, undef, undef, undef, undef, undef, undef, undef, undef, undef, undef, undef, undef, undef, undef, undef, undef, undef, undef, undef, undef, undef, undef, undef, undef, undef, undef, undef, undef, undef, undef, undef, undef, undef, undef, undef, undef].getD zz undef, rfl, CO.out.below hB2.out⟩, by simp [intOf]; have := hk.out; omega⟩
    ·obtain ⟨cc, hcc⟩ : ∃ c, Keep (cf R[k].1.id R[i].1.id = c) := ⟨_, ⟨rfl⟩⟩
     rw [hcc.out] at hc
     refine wp_region_held_drew (S := fun wz => wz.rangeAt rb (k * 36) (bytesA 32 R[k].1.id.f).toList ∧ wz.rangeAt rb (i * 36) (bytesA 32 R[i].1.id.f).toList ∧ wz.rangeAt rb (k * 36) ek.toList) (by kernel_rfl) (hSS.out _ hB0.out) (fun hHeld => ?_)
     refine tkS (i := 0) (oi := ⟨some 86, Op.move (Operand.tmp 8), 23, _, _, none⟩) (v := .slice (some ⟨rb, 0, none⟩) L.length rc) rfl (Or.inl ⟨by rfl, fun w hS => by clear hS; go_simp⟩) hHeld ?_
     refine tkS (i := 1) (oi := ⟨some 87, Op.move (Operand.tmp 13), 3, _, _, none⟩) (v := .int .i64 (k : Int)) rfl (Or.inl ⟨by rfl, fun w hS => by clear hS; go_simp⟩) hHeld ?_
     refine tkS (i := 2) (oi := ⟨some 88, Op.indexAddr 23 (Operand.tmp 86) (Operand.tmp 87), 0, _, _, none⟩) (v := .pointer (some ⟨rb, k * 36, none⟩)) rfl (Or.inl ⟨by rfl, fun w hS => by clear hS; go_simp⟩) hHeld ?_
     refine tkS (i := 3) (oi := ⟨some 89, Op.fieldAddr 52 (Operand.tmp 88) 0, 0, _, _, none⟩) (v := .pointer (some ⟨rb, k * 36, none⟩)) rfl (Or.inl ⟨by rfl, fun w hS => by clear hS; go_simp⟩) hHeld ?_
     refine tkS (i := 4) (oi := ⟨some 90, Op.load 36 (Operand.tmp 89), 36, _, _, none⟩) (v := .agg (bytesA 32 R[k].1.id.f)) rfl (yieldsIf_ld (by rfl) (Operand.tmp 89) 36 rfl rb (k * 36) rfl (bytesA 32 R[k].1.id.f) _ Tryz.underlying36 rfl (size36E _) fun w hS => hS.1) hHeld ?_
     refine tkS (i := 5) (oi := ⟨some 91, Op.move (Operand.tmp 8), 23, _, _, none⟩) (v := .slice (some ⟨rb, 0, none⟩) L.length rc) rfl (Or.inl ⟨by rfl, fun w hS => by clear hS; go_simp⟩) hHeld ?_
     refine tkS (i := 6) (oi := ⟨some 92, Op.move (Operand.tmp 12), 3, _, _, none⟩) (v := .int .i64 (i : Int)) rfl (Or.inl ⟨by rfl, fun w hS => by clear hS; go_simp⟩) hHeld ?_
     refine tkS (i := 7) (oi := ⟨some 93, Op.indexAddr 23 (Operand.tmp 91) (Operand.tmp 92), 0, _, _, none⟩) (v := .pointer (some ⟨rb, i * 36, none⟩)) rfl (Or.inl ⟨by rfl, fun w hS => by clear hS; go_simp⟩) hHeld ?_
     refine tkS (i := 8) (oi := ⟨some 94, Op.fieldAddr 52 (Operand.tmp 93) 0, 0, _, _, none⟩) (v := .pointer (some ⟨rb, i * 36, none⟩)) rfl (Or.inl ⟨by rfl, fun w hS => by clear hS; go_simp⟩) hHeld ?_
     refine tkS (i := 9) (oi := ⟨some 95, Op.load 36 (Operand.tmp 94), 36, _, _, none⟩) (v := .agg (bytesA 32 R[i].1.id.f)) rfl (yieldsIf_ld (by rfl) (Operand.tmp 94) 36 rfl rb (i * 36) rfl (bytesA 32 R[i].1.id.f) _ Tryz.underlying36 rfl (size36E _) fun w hS => hS.2.1) hHeld ?_
     refine wpAnyH_ready (rs := [10]) (by kernel_rfl) (by simp) ?_
     refine AllReadyH.cons (o := ⟨some 96, Op.call { callee := Callee.value (Operand.func 21), args := #[Operand.tmp 90, Operand.tmp 95], argTypes := #[36, 36] }, 3, _, _, none⟩) rfl (fun K hK => ?_) AllReadyH.nil
     rw [if_pos (by rfl)]
     refine wp_callF 21 _ _ rfl Tryz.in21 #[.agg (bytesA 32 R[k].1.id.f), .agg (bytesA 32 R[i].1.id.f)] (by simp [Act.eval]) (fun uu w' => uu = .int .i64 cc ∧ Below ws.drew.heap.size ws.drew w') ((Nd.Sh.refCompare_any R[k].1.id R[i].1.id ws.drew).mono fun e w' h => ⟨_, h.1, congrArg (Value.int .i64) hcc.out, by obtain ⟨q, os, e⟩ := h.2; rw [e]; exact grow_below _ _ _⟩) ?_
     rintro _ wt ⟨rfl, hbt⟩
     have hB1 : Keep (Below ws.heap.size ws wt) := ⟨belowC hB0.out hbt⟩
     refine hK _ _ (hSS.out _ hB1.out) fun hH1 => ?_
     clear hK hbt
     simp only [Act.put, pqA, pqB, pqC]
     refine tkS (i := 11) (oi := ⟨some 97, Op.binOp BinOp.leq 3 (Operand.tmp 96) (Operand.const (Value.int IntKind.i64 0)) 3, 4, _, _, none⟩) (v := .bool false) rfl (Or.inl ⟨by rfl, fun w hS => by clear hS; go_simp⟩) hH1 ?_
     refine tkS (i := 12) (oi := ⟨some 98, Op.move (Operand.tmp 97), 4, _, _, none⟩) (v := .bool false) rfl (Or.inl ⟨by rfl, fun w hS => by clear hS; go_simp⟩) hH1 ?_
     refine tkS (i := 13) (oi := ⟨some 99, Op.move (Operand.tmp 5), 25, _, _, some (12, true)⟩) (v := undef) rfl (Or.inr ⟨by rfl, rfl⟩) hH1 ?_
     refine tkS (i := 14) (oi := ⟨some 100, Op.move (Operand.tmp 8), 23, _, _, some (12, true)⟩) (v := undef) rfl (Or.inr ⟨by rfl, rfl⟩) hH1 ?_
     refine tkS (i := 15) (oi := ⟨some 101, Op.move (Operand.tmp 13), 3, _, _, some (12, true)⟩) (v := undef) rfl (Or.inr ⟨by rfl, rfl⟩) hH1 ?_
     refine tkS (i := 16) (oi := ⟨some 102, Op.indexAddr 23 (Operand.tmp 100) (Operand.tmp 101), 0, _, _, some (12, true)⟩) (v := undef) rfl (Or.inr ⟨by rfl, rfl⟩) hH1 ?_
     refine tkS (i := 17) (oi := ⟨some 103, Op.load 52 (Operand.tmp 102), 52, _, _, some (12, true)⟩) (v := undef) rfl (Or.inr ⟨by rfl, rfl⟩) hH1 ?_
     refine tkS (i := 18) (oi := ⟨some 104, Op.move (Operand.tmp 12), 3, _, _, some (12, true)⟩) (v := undef) rfl (Or.inr ⟨by rfl, rfl⟩) hH1 ?_
     refine tkS (i := 19) (oi := ⟨some 105, Op.call { callee := Callee.value (Operand.func 20), args := #[Operand.tmp 99, Operand.tmp 103, Operand.tmp 104], argTypes := #[25, 52, 3] }, 4, _, _, some (12, true)⟩) (v := undef) rfl (Or.inr ⟨by rfl, rfl⟩) hH1 ?_
     refine tkS (i := 20) (oi := ⟨some 106, Op.pick (Operand.tmp 98) (Operand.tmp 105) (Operand.const (Value.bool false)), 4, _, _, none⟩) (v := .bool false) rfl (Or.inl ⟨by rfl, fun w hS => by clear hS; go_simp⟩) hH1 ?_
     refine wpAnyH_done (by kernel_rfl) ?_ _
     refine hK31 _ _ ?_
     refine wp_cond_false rfl ?_
     refine wp_skip ?_
     refine hK30 _ _ ?_
     refine rgn ?_
     refine VlS (.int .i64 (k : Int)) ?_
     refine VlS (.int .i64 ((i + 1 + (u + 1) : Nat) : Int)) ?_
     refine VlS (.int .i64 ((i + 1 + (u + 1) : Nat) : Int)) ?_
     refine WL.nil ?_
     refine ⟨⟨u + 1, fun zz => [.slice sa L.length sc, .slice na ns.length nc, undef, undef, .bool false, .pointer (some ⟨p, 0, none⟩), .int .i64 0, .int .i64 0, .slice (some ⟨rb, 0, none⟩) L.length rc, f 9, f 10, f 11, .int .i64 (i : Int), .int .i64 ((i + 1 + (u + 1) : Nat) : Int), undef, undef, undef, undef, undef, undef, undef, undef, .bool true, .bool false, .tuple #[.pointer (some ⟨p, 0, none⟩), .int .i64 0, .int .i64 0], .slice sa L.length sc, .tuple #[.pointer (some ⟨p, 0, none⟩), .int .i64 0, .int .i64 0], .pointer (some ⟨p, 0, none⟩), .int .i64 0, .int .i64 0, .int .i64 0, .bool false, .bool false, .pointer (some ⟨p, 0, none⟩), .bool false, .bool false, undef, undef, undef, undef, undef, undef, .pointer (some ⟨p, 0, none⟩), .int .i64 (L.length : Int), .slice sa L.length sc, .int .i64 (L.length : Int), .bool false, .slice (some ⟨w2.heap.size, 0, none⟩) 0 0, .slice sa L.length sc, .int .i64 (L.length : Int), .int .i64 (L.length : Int), .bool false, f 52, f 53, f 54, f 55, f 56, f 57, f 58, f 59, f 60, f 61, f 62, f 63, f 64, f 65, f 66, f 67, f 68, f 69, f 70, f 71, f 72, .slice (some ⟨rb, 0, none⟩) L.length rc, .int .i64 (L.length : Int), .int .i64 (i : Int), .bool true, .int .i64 (i : Int), .int .i64 (i : Int), .int .i64 ((i + 1 + (0 : Nat) : Nat) : Int), .int .i64 (k : Int), .slice (some ⟨rb, 0, none⟩) L.length rc, .int .i64 (L.length : Int), .bool true, .int .i64 (k : Int), .int .i64 ((i + 1 + (u + 1) : Nat) : Int), .slice (some ⟨rb, 0, none⟩) L.length rc, .int .i64 (k : Int), .pointer (some ⟨rb, k * 36, none⟩), .pointer (some ⟨rb, k * 36, none⟩), .agg (bytesA 32 R[k].1.id.f), .slice (some ⟨rb, 0, none⟩) L.length rc, .int .i64 (i : Int), .pointer (some ⟨rb, i * 36, none⟩), .pointer (some ⟨rb, i * 36, none⟩), .agg (bytesA 32 R[i].1.id.f), .int .i64 cc, .bool false, .bool false, undef, undef, undef, undef, undef, undef, undef, .bool false, fb 107, undef, undef, undef, undef, undef, undef, undef, undef, undef, undef, undef, undef, undef, undef, undef, undef, undef, undef, undef, undef, undef, undef, undef, undef, undef, undef, undef, undef, undef, undef, undef, undef, undef, undef, undef, undef, undef, undef, undef, undef, undef, undef, undef, undef, undef, undef, undef, undef, undef, undef, undef, undef, undef, undef, undef, undef, undef, undef, undef, undef, undef, undef, undef, undef, undef, undef, undef].getD zz undef, rfl, CO.out.below hB1.out⟩, by simp [intOf]; have := hk.out; omega⟩
   ·refine wp_seq_k fun K32 hK32 => ?_
    refine wp_seq_k fun K33 hK33 => rgn ?_
    refine VlS (.int .i64 (k : Int)) ?_
    refine VlS (.slice (some ⟨rb, 0, none⟩) L.length rc) ?_
    refine VlS (.int .i64 (L.length : Int)) ?_
    refine VlS (.bool false) ?_
    refine WL.nil (hK33 _ _ ?_)
    refine wp_cond_false rfl ?_
    refine wp_exit ?_
    refine hK25 _ _ ?_
    refine rgn ?_
    refine VlS (.int .i64 ((i + 1 : Nat) : Int)) ?_
    refine VlS (.int .i64 ((i + 1 : Nat) : Int)) ?_
    refine WL.nil ?_
    refine ⟨⟨i + 1, fun zz => [.slice sa L.length sc, .slice na ns.length nc, undef, undef, .bool false, .pointer (some ⟨p, 0, none⟩), .int .i64 0, .int .i64 0, .slice (some ⟨rb, 0, none⟩) L.length rc, f 9, f 10, f 11, .int .i64 (i : Int), .int .i64 (k : Int), undef, undef, undef, undef, undef, undef, undef, undef, .bool true, .bool false, .tuple #[.pointer (some ⟨p, 0, none⟩), .int .i64 0, .int .i64 0], .slice sa L.length sc, .tuple #[.pointer (some ⟨p, 0, none⟩), .int .i64 0, .int .i64 0], .pointer (some ⟨p, 0, none⟩), .int .i64 0, .int .i64 0, .int .i64 0, .bool false, .bool false, .pointer (some ⟨p, 0, none⟩), .bool false, .bool false, undef, undef, undef, undef, undef, undef, .pointer (some ⟨p, 0, none⟩), .int .i64 (L.length : Int), .slice sa L.length sc, .int .i64 (L.length : Int), .bool false, .slice (some ⟨w2.heap.size, 0, none⟩) 0 0, .slice sa L.length sc, .int .i64 (L.length : Int), .int .i64 (L.length : Int), .bool false, f 52, f 53, f 54, f 55, f 56, f 57, f 58, f 59, f 60, f 61, f 62, f 63, f 64, f 65, f 66, f 67, f 68, f 69, f 70, f 71, f 72, .slice (some ⟨rb, 0, none⟩) L.length rc, .int .i64 (L.length : Int), .int .i64 ((i + 1 : Nat) : Int), .bool true, .int .i64 (i : Int), .int .i64 (i : Int), .int .i64 ((i + 1 + (0 : Nat) : Nat) : Int), .int .i64 (k : Int), .slice (some ⟨rb, 0, none⟩) L.length rc, .int .i64 (L.length : Int), .bool false, fc 84, fc 85, fc 86, fc 87, fc 88, fc 89, fc 90, fc 91, fc 92, fc 93, fc 94, fc 95, fc 96, fc 97, fc 98, fc 99, fc 100, fc 101, fc 102, fc 103, fc 104, fc 105, fc 106, .int .i64 ((i + 1 : Nat) : Int), undef, undef, undef, undef, undef, undef, undef, undef, undef, undef, undef, undef, undef, undef, undef, undef, undef, undef, undef, undef, undef, undef, undef, undef, undef, undef, undef, undef, undef, undef, undef, undef, undef, undef, undef, undef, undef, undef, undef, undef, undef, undef, undef, undef, undef, undef, undef, undef, undef, undef, undef, undef, undef, undef, undef, undef, undef, undef, undef, undef, undef, undef, undef, undef, undef, undef, undef].getD zz undef, rfl, by omega, CO.out⟩, by simp [intOf]; omega⟩
  ·refine wp_seq_k fun K34 hK34 => rgn ?_
   refine VlS (.bool false) ?_
   refine WL.nil (hK34 _ _ ?_)
   refine wp_seq_k fun K35 hK35 => ?_
   refine wp_cond_false rfl ?_
   refine wp_exit ?_
   refine hK21 _ _ ?_
   refine wp_seq_k fun K36 hK36 => rgn ?_
   have D0 := Keep.mk BO.out.bel
   refine WL.bs (by kernel_rfl) 23 0 _ rfl #[] (by simp) _ _ (bsE23 wb_) ?_
   have HOd := Keep.mk (owns_new wb_ 52 36)
   have B4 := Keep.mk (below_new wb_ (.cells #[] 52))
   generalize wb_.alloc (.cells #[] 52) = wd_ at *
   have D1 := Keep.mk (belowC D0.out B4.out)
   simp only [Act.put, pqA, pqB, pqC]
   refine VlS (.slice (some ⟨wb_.heap.size, 0, none⟩) 0 0) ?_
   refine WL.nil (hK36 _ _ ?_)
   refine wp_seq_k fun K37 hK37 => rgn ?_
   refine VlS (.slice sa L.length sc) ?_
   refine VlS (.int .i64 (L.length : Int)) ?_
   refine WL.mkS (by kernel_rfl) 57 (.tmp 110) (.tmp 110) rfl _ _ rfl rfl _ _ (run_makeBs L.length (by have := HLn.out; omega) wd_) ?_
   have HUe := Keep.mk (Blk.new wd_ 4 (flg L.length []).toArray)
   have B5 := Keep.mk (below_new wd_ (.cells (flg L.length []).toArray 4))
   generalize wd_.alloc (.cells (flg L.length []).toArray 4) = we_ at *
   have D2 := Keep.mk (belowC D1.out B5.out)
   have HOe : Keep (we_.ownsRow w2.heap.size 52 36 (.slice (some ⟨wb_.heap.size, 0, none⟩) 0 0) 0 []) := ⟨by have h := owns_grown HOd.out (Grown.below (S := fun _ => False) B5.out) (fun _ _ h => h); exact ⟨h.1, h.2.imp id fun ⟨g, cap, cur, h1, h2, h3⟩ => ⟨g, cap, cur, h1, Nat.le_trans D0.out.size h2, h3⟩⟩⟩
   obtain ⟨gu, hgu⟩ : ∃ b, Keep (b = wd_.heap.size) := ⟨_, ⟨rfl⟩⟩
   rw [← hgu.out] at HUe ⊢
   have hgl : Keep (w2.heap.size ≤ gu) := ⟨by rw [hgu.out]; exact D1.out.size⟩
   simp only [Act.put, pqA, pqB, pqC]
   refine VlS (.slice (some ⟨gu, 0, none⟩) L.length L.length) ?_
   refine WL.nil (hK37 _ _ ?_)
   refine wp_seq_k fun K38 hK38 => ?_
   refine wp_seq_k fun K39 hK39 => rgn ?_
   refine VlS (.slice na ns.length nc) ?_
   refine VlS (.int .i64 (ns.length : Int)) ?_
   refine VlS (.int .i64 0) ?_
   refine WL.nil (hK39 _ _ ?_)
   refine wp_block ?_
   refine wp_loop (fun ac wr => ∃ (t : Nat) (fd : Nat → Value) (uo : Value), ac = { tmps := #[.slice sa L.length sc, .slice na ns.length nc, undef, undef, .bool false, .pointer (some ⟨p, 0, none⟩), .int .i64 0, .int .i64 0, .slice ra L.length rc, f 9, f 10, f 11, fb 12, fb 13, uo, .slice (some ⟨gu, 0, none⟩) L.length L.length, undef, fd 17, undef, undef, undef, undef, .bool true, .bool false, .tuple #[.pointer (some ⟨p, 0, none⟩), .int .i64 0, .int .i64 0], .slice sa L.length sc, .tuple #[.pointer (some ⟨p, 0, none⟩), .int .i64 0, .int .i64 0], .pointer (some ⟨p, 0, none⟩), .int .i64 0, .int .i64 0, .int .i64 0, .bool false, .bool false, .pointer (some ⟨p, 0, none⟩), .bool false, .bool false, undef, undef, undef, undef, undef, undef, .pointer (some ⟨p, 0, none⟩), .int .i64 (L.length : Int), .slice sa L.length sc, .int .i64 (L.length : Int), .bool false, .slice (some ⟨w2.heap.size, 0, none⟩) 0 0, .slice sa L.length sc, .int .i64 (L.length : Int), .int .i64 (L.length : Int), .bool false, f 52, f 53, f 54, f 55, f 56, f 57, f 58, f 59, f 60, f 61, f 62, f 63, f 64, f 65, f 66, f 67, f 68, f 69, f 70, f 71, f 72, .slice ra L.length rc, .int .i64 (L.length : Int), .int .i64 (i : Int), .bool false, fb 77, fb 78, fb 79, fb 80, fb 81, fb 82, fb 83, fb 84, fb 85, fb 86, fb 87, fb 88, fb 89, fb 90, fb 91, fb 92, fb 93, fb 94, fb 95, fb 96, fb 97, fb 98, fb 99, fb 100, fb 101, fb 102, fb 103, fb 104, fb 105, fb 106, fb 107, .slice (some ⟨wb_.heap.size, 0, none⟩) 0 0, .slice sa L.length sc, .int .i64 (L.length : Int), .slice (some ⟨gu, 0, none⟩) L.length L.length, .slice na ns.length nc, .int .i64 (ns.length : Int), .int .i64 (t : Int), fd 115, fd 116, fd 117, fd 118, fd 119, fd 120, fd 121, fd 122, fd 123, fd 124, fd 125, fd 126, fd 127, fd 128, fd 129, fd 130, fd 131, fd 132, fd 133, fd 134, fd 135, fd 136, fd 137, fd 138, fd 139, fd 140, fd 141, fd 142, fd 143, undef, undef, undef, undef, undef, undef, undef, undef, undef, undef, undef, undef, undef, undef, undef, undef, undef, undef, undef, undef, undef, undef, undef, undef, undef, undef, undef, undef, undef, undef, undef], defers := [] } ∧ t ≤ ns.length ∧ Below w2.heap.size w2 wr ∧ wr.ownsRow w2.heap.size 52 36 uo (selP L.length (ns.take t)).length (((selP L.length (ns.take t)).map (gE L)).flatMap encE) ∧ Blk wr gu 4 (flg L.length (selP L.length (ns.take t))).toArray) (fun a _ => ns.length - (intOf (a.tmps.getD 114 undef)).toNat) ⟨0, fun zz => [.slice sa L.length sc, .slice na ns.length nc, undef, undef, .bool false, .pointer (some ⟨p, 0, none⟩), .int .i64 0, .int .i64 0, .slice ra L.length rc, f 9, f 10, f 11, fb 12, fb 13, .slice (some ⟨wb_.heap.size, 0, none⟩) 0 0, .slice (some ⟨gu, 0, none⟩) L.length L.length, undef, undef, undef, undef, undef, undef, .bool true, .bool false, .tuple #[.pointer (some ⟨p, 0, none⟩), .int .i64 0, .int .i64 0], .slice sa L.length sc, .tuple #[.pointer (some ⟨p, 0, none⟩), .int .i64 0, .int .i64 0], .pointer (some ⟨p, 0, none⟩), .int .i64 0, .int .i64 0, .int .i64 0, .bool false, .bool false, .pointer (some ⟨p, 0, none⟩), .bool false, .bool false, undef, undef, undef, undef, undef, undef, .pointer (some ⟨p, 0, none⟩), .int .i64 (L.length : Int), .slice sa L.length sc, .int .i64 (L.length : Int), .bool false, .slice (some ⟨w2.heap.size, 0, none⟩) 0 0, .slice sa L.length sc, .int .i64 (L.length : Int), .int .i64 (L.length : Int), .bool false, f 52, f 53, f 54, f 55, f 56, f 57, f 58, f 59, f 60, f 61, f 62, f 63, f 64, f 65, f 66, f 67, f 68, f 69, f 70, f 71, f 72, .slice ra L.length rc, .int .i64 (L.length : Int), .int .i64 (i : Int), .bool false, fb 77, fb 78, fb 79, fb 80, fb 81, fb 82, fb 83, fb 84, fb 85, fb 86, fb 87, fb 88, fb 89, fb 90, fb 91, fb 92, fb 93, fb 94, fb 95, fb 96, fb 97, fb 98, fb 99, fb 100, fb 101, fb 102, fb 103, fb 104, fb 105, fb 106, fb 107, .slice (some ⟨wb_.heap.size, 0, none⟩) 0 0, .slice sa L.length sc, .int .i64 (L.length : Int), .slice (some ⟨gu, 0, none⟩) L.length L.length, .slice na ns.length nc, .int .i64 (ns.length : Int), .int .i64 0, undef, undef, undef, undef, undef, undef, undef, undef, undef, undef, undef, undef, undef, undef, undef, undef, undef, undef, undef, undef, undef, undef, undef, undef, undef, undef, undef, undef, undef, undef, undef, undef, undef, undef, undef, undef, undef, undef, undef, undef, undef, undef, undef, undef, undef, undef, undef, undef, undef, undef, undef, undef, undef, undef, undef, undef, undef, undef, undef, undef].getD zz undef, .slice (some ⟨wb_.heap.size, 0, none⟩) 0 0, rfl, by omega, D2.out, HOe.out, HUe.out⟩ ?_
   rintro ac wr ⟨t, fd, uo, rfl, ht, hB, hO, hU⟩
   have DB := Keep.mk hB
   have DO := Keep.mk hO
   have DU := Keep.mk hU
   clear hB hO hU
   obtain ⟨ms, hms⟩ : ∃ ms, Keep (selP L.length (ns.take t) = ms) := ⟨_, ⟨rfl⟩⟩
   have hmo : Keep (ms.Nodup ∧ ∀ i ∈ ms, i < L.length) := ⟨by rw [← hms.out]; exact selP_ok _ _⟩
   have hml : Keep (ms.length ≤ L.length) := ⟨len_below hmo.out.1 hmo.out.2⟩
   rw [hms.out] at DO DU
   have DW : Keep (Below w.heap.size w wr) := ⟨B2.out.trans (DB.out.mono B2.out.size)⟩
   by_cases htl : t < ns.length
   ·have htl' : (t : Int) < (ns.length : Int) := by omega
    have ht0 : (0 : Int) ≤ (t : Int) := by omega
    have hwt : IntKind.i64.wrap ((t : Int) + 1) = ((t + 1 : Nat) : Int) := by rw [IntKind.wrap_i64]; have := HNl.out; omega
    obtain ⟨nb, no, hna, hnc⟩ := (HN.out.below DW.out).at htl
    subst hna
    obtain ⟨x, hx⟩ : ∃ x, Keep (ns[t] = x) := ⟨_, ⟨rfl⟩⟩
    rw [hx.out] at hnc
    have hsel : Keep (selP L.length (ns.take (t + 1)) = selA L.length ms x) := ⟨by rw [List.take_succ_eq_append_getElem htl, selP_snoc, hms.out, hx.out]⟩
    refine wp_seq_k fun K40 hK40 => rgn ?_
    refine VlS (.bool true) ?_
    refine WL.nil (hK40 _ _ ?_)
    refine wp_seq_k fun K41 hK41 => ?_
    refine wp_cond_true rfl ?_
    refine wp_skip ?_
    refine hK41 _ _ ?_
    refine wp_seq_k fun K42 hK42 => ?_
    refine wp_block ?_
    refine wp_seq_k fun K43 hK43 => rgn ?_
    refine VlS (.pointer (some ⟨nb, no + t, none⟩)) ?_
    refine VlS (.int .i64 x) ?_
    refine VlS (.int .i64 x) ?_
    refine WL.nil (hK43 _ _ ?_)
    refine wp_seq_k fun K44 hK44 => ?_
    clear hnc
    by_cases hx0 : 0 ≤ x
    ·by_cases hxl : x < (L.length : Int)
     ·obtain ⟨k, hk⟩ : ∃ k : Nat, x = (k : Int) := ⟨x.toNat, by omega⟩
      subst hk
      have hkl : k < L.length := by omega
      have cu : wr.cell? ⟨gu, k, none⟩ = some (.bool (decide (k ∈ ms))) := DU.out.c k (by rw [List.getElem?_toArray]; exact flg_get _ _ _ hkl)
      have fu := DU.out.frozen k
      by_cases hkm : k ∈ ms
      ·rw [decide_eq_true hkm] at cu
       have hsa : Keep (selA L.length ms (k : Int) = ms) := ⟨by unfold selA; rw [if_neg (fun h => h.2.2 (by rw [Int.toNat_natCast]; exact hkm))]⟩
       refine rgn ?_
       refine VlS (.int .i64 (k : Int)) ?_
       refine VlS (.bool true) ?_
       refine VlS (.bool true) ?_
       refine VlS (.int .i64 (k : Int)) ?_
       refine VlS (.slice sa L.length sc) ?_
       refine VlS (.int .i64 (L.length : Int)) ?_
       refine VlS (.bool true) ?_
       refine VlS (.bool true) ?_
       refine VlS (.bool true) ?_
       refine VlS (.slice (some ⟨gu, 0, none⟩) L.length L.length) ?_
       refine VlS (.int .i64 (k : Int)) ?_
       refine VlS (.pointer (some ⟨gu, k, none⟩)) ?_
       refine VlS (.bool true) ?_
       refine VlS (.bool false) ?_
       refine VlS (.bool false) ?_
       refine WL.nil (hK44 _ _ ?_)
       refine wp_cond_false rfl ?_
       refine wp_skip ?_
       refine hK42 _ _ ?_
       refine rgn ?_
       refine VlS (.int .i64 ((t + 1 : Nat) : Int)) ?_
       refine VlS (.int .i64 ((t + 1 : Nat) : Int)) ?_
       refine WL.nil ?_
       refine ⟨⟨t + 1, fun zz => [.slice sa L.length sc, .slice (some ⟨nb, no, none⟩) ns.length nc, undef, undef, .bool false, .pointer (some ⟨p, 0, none⟩), .int .i64 0, .int .i64 0, .slice ra L.length rc, f 9, f 10, f 11, fb 12, fb 13, uo, .slice (some ⟨gu, 0, none⟩) L.length L.length, undef, .int .i64 (k : Int), undef, undef, undef, undef, .bool true, .bool false, .tuple #[.pointer (some ⟨p, 0, none⟩), .int .i64 0, .int .i64 0], .slice sa L.length sc, .tuple #[.pointer (some ⟨p, 0, none⟩), .int .i64 0, .int .i64 0], .pointer (some ⟨p, 0, none⟩), .int .i64 0, .int .i64 0, .int .i64 0, .bool false, .bool false, .pointer (some ⟨p, 0, none⟩), .bool false, .bool false, undef, undef, undef, undef, undef, undef, .pointer (some ⟨p, 0, none⟩), .int .i64 (L.length : Int), .slice sa L.length sc, .int .i64 (L.length : Int), .bool false, .slice (some ⟨w2.heap.size, 0, none⟩) 0 0, .slice sa L.length sc, .int .i64 (L.length : Int), .int .i64 (L.length : Int), .bool false, f 52, f 53, f 54, f 55, f 56, f 57, f 58, f 59, f 60, f 61, f 62, f 63, f 64, f 65, f 66, f 67, f 68, f 69, f 70, f 71, f 72, .slice ra L.length rc, .int .i64 (L.length : Int), .int .i64 (i : Int), .bool false, fb 77, fb 78, fb 79, fb 80, fb 81, fb 82, fb 83, fb 84, fb 85, fb 86, fb 87, fb 88, fb 89, fb 90, fb 91, fb 92, fb 93, fb 94, fb 95, fb 96, fb 97, fb 98, fb 99, fb 100, fb 101, fb 102, fb 103, fb 104, fb 105, fb 106, fb 107, .slice (some ⟨wb_.heap.size, 0, none⟩) 0 0, .slice sa L.length sc, .int .i64 (L.length : Int), .slice (some ⟨gu, 0, none⟩) L.length L.length, .slice (some ⟨nb, no, none⟩) ns.length nc, .int .i64 (ns.length : Int), .int .i64 ((t + 1 : Nat) : Int), .bool true, .pointer (some ⟨nb, no + t, none⟩), .int .i64 (k : Int), .int .i64 (k : Int), .bool true, .bool true, .int .i64 (k : Int), .slice sa L.length sc, .int .i64 (L.length : Int), .bool true, .bool true, .bool true, .slice (some ⟨gu, 0, none⟩) L.length L.length, .int .i64 (k : Int), .pointer (some ⟨gu, k, none⟩), .bool true, .bool false, .bool false, fd 133, fd 134, fd 135, fd 136, fd 137, fd 138, fd 139, fd 140, fd 141, fd 142, .int .i64 ((t + 1 : Nat) : Int), undef, undef, undef, undef, undef, undef, undef, undef, undef, undef, undef, undef, undef, undef, undef, undef, undef, undef, undef, undef, undef, undef, undef, undef, undef, undef, undef, undef, undef, undef, undef].getD zz undef, uo, rfl, by omega, DB.out, ?_, ?_⟩, by simp [intOf]; omega⟩
       ·rw [hsel.out, hsa.out]; exact DO.out
       ·rw [hsel.out, hsa.out]; exact DU.out
      ·rw [decide_eq_false hkm] at cu
       have hsa : Keep (selA L.length ms (k : Int) = ms ++ [k]) := ⟨by unfold selA; rw [if_pos ⟨hx0, hxl, by rw [Int.toNat_natCast]; exact hkm⟩, Int.toNat_natCast]⟩
       obtain ⟨sb, so, hsa2, hrg⟩ := esl_range (HS.out.below DW.out) hkl
       subst hsa2
       obtain ⟨pa, pc, hp1⟩ : ∃ a c, Keep (L[k].2.1 = .slice a L[k].1.N.ps.length c) := by obtain ⟨a, c, e⟩ := (HI.out _ (List.getElem_mem hkl)).ps.form; exact ⟨a, c, ⟨e⟩⟩
       obtain ⟨qa, qc, hq1⟩ : ∃ a c, Keep (L[k].2.2 = .slice a L[k].1.N.ops.length c) := by obtain ⟨a, c, e⟩ := (HI.out _ (List.getElem_mem hkl)).ops.form; exact ⟨a, c, ⟨e⟩⟩
       obtain ⟨ee, hee⟩ : ∃ a : Array Value, Keep (a = entA L[k].1.id.f L[k].1.N.au L[k].1.N.ck L[k].2.1 L[k].2.2) := ⟨_, ⟨rfl⟩⟩
       have HRg0 : Keep (wr.rangeAt sb (so + k * 36) ee.toList) := ⟨by rw [hee.out]; exact hrg⟩
       clear hrg
       refine rgn ?_
       refine VlS (.int .i64 (k : Int)) ?_
       refine VlS (.bool true) ?_
       refine VlS (.bool true) ?_
       refine VlS (.int .i64 (k : Int)) ?_
       refine VlS (.slice (some ⟨sb, so, none⟩) L.length sc) ?_
       refine VlS (.int .i64 (L.length : Int)) ?_
       refine VlS (.bool true) ?_
       refine VlS (.bool true) ?_
       refine VlS (.bool true) ?_
       refine VlS (.slice (some ⟨gu, 0, none⟩) L.length L.length) ?_
       refine VlS (.int .i64 (k : Int)) ?_
       refine VlS (.pointer (some ⟨gu, k, none⟩)) ?_
       refine VlS (.bool false) ?_
       refine VlS (.bool true) ?_
       refine VlS (.bool true) ?_
       refine WL.nil (hK44 _ _ ?_)
       refine wp_cond_true rfl ?_
       refine wp_seq_k fun K45 hK45 => rgn ?_
       refine VlS (.slice (some ⟨gu, 0, none⟩) L.length L.length) ?_
       refine VlS (.int .i64 (k : Int)) ?_
       refine VlS (.pointer (some ⟨gu, k, none⟩)) ?_
       refine WL.cell (by kernel_rfl) (wr.setCell ⟨gu, k, none⟩ (.bool true)) (by go_simp) ?_
       clear cu fu
       have GU : Keep (Grown wr (wr.setCell ⟨gu, k, none⟩ (.bool true)) fun j => j = gu) := ⟨Grown.setCell wr gu k _ fun _ => rfl⟩
       have DUx : Keep (Blk (wr.setCell ⟨gu, k, none⟩ (.bool true)) gu 4 (flg L.length (ms ++ [k])).toArray) := ⟨by have h := DU.out.set k (.bool true); rw [flg_set] at h; exact h⟩
       generalize wr.setCell ⟨gu, k, none⟩ (.bool true) = wx at *
       have DOx := Keep.mk (owns_grown DO.out GU.out fun j hj e => by subst e; exact absurd ((owns_typ DO.out j hj).one DU.out.typ) (by decide))
       have DBx : Keep (Below w2.heap.size w2 wx) := ⟨DB.out.trans (GU.out.to_below (fun j hj e => by have := hgl.out; omega) DB.out.size)⟩
       have HRg : Keep (wx.rangeAt sb (so + k * 36) ee.toList) := ⟨fun j u hu => GU.out.cell (HRg0.out j u hu) fun e => by
        have h1 := cell_lt (HRg0.out j u hu)
        have h2 : sb < w.heap.size := by
         obtain ⟨b', o', e', h'⟩ := esl_range HS.out hkl
         injection e' with e'
         injection e' with e1 e2
         subst e1
         exact cell_lt (h' 32 (.int .i64 L[k].1.N.au) (by rw [encE, Array.getElem?_toList]; exact ent_au _ _ _ _ _))
        have := hgl.out
        have := B2.out.size
        omega⟩
       simp only [Act.put]
       refine WL.nil (hK45 _ _ ?_)
       refine rgn ?_
       refine VlS (uo) ?_
       refine VlS (.slice (some ⟨sb, so, none⟩) L.length sc) ?_
       refine VlS (.int .i64 (k : Int)) ?_
       refine VlS (.pointer (some ⟨sb, so + k * 36, none⟩)) ?_
       refine WL.midA (by kernel_rfl) 52 (.tmp 139) rfl sb (so + k * 36) rfl ee _ HRg.out Tryz.underlying52 rfl (by rw [hee.out]; exact sizeE _ _ _ _ _) ?_
       simp only [Act.put, pqA, pqB, pqC]
       have hbs := bsE1 L[k].1.id.f L[k].1.N.au L[k].1.N.ck pa qa L[k].1.N.ps.length L[k].1.N.ops.length pc qc wx
       rw [← hp1.out, ← hq1.out, ← hee.out] at hbs
       refine WL.bs (by kernel_rfl) 23 1 _ rfl #[(0, .agg ee)] (by simp [Act.eval]) _ _ hbs ?_
       clear hbs
       obtain ⟨wy, hwy⟩ : ∃ wq, Keep (wq = wx.alloc (.cells ee 52)) := ⟨_, ⟨rfl⟩⟩
       rw [← hwy.out]
       have HBy : Keep (Blk wy wx.heap.size 52 ee) := ⟨by rw [hwy.out]; exact Blk.new _ _ _⟩
       have LBy : Keep (Below wx.heap.size wx wy) := ⟨by rw [hwy.out]; exact below_new _ _⟩
       clear hwy
       have JOy := Keep.mk (owns_grown DOx.out (Grown.below (S := fun _ => False) LBy.out) fun _ _ h => h)
       simp only [Act.put, pqA, pqB, pqC]
       obtain ⟨bt, hbt, hIb⟩ := infoC52
       refine WL.appG (by kernel_rfl) 23 52 36 bt _ Tryz.underlying23 hIb (by kernel_rfl) (by decide) (.tmp 136) (.tmp 141) rfl w2.heap.size _ ⟨wx.heap.size, 0, none⟩ ms.length 1 1 _ (encE (gE L k)) rfl rfl JOy.out (by rw [encE_len]) (fun j u hu => by rw [Addr.add_mid]; have h := blk_range HBy.out; rw [hee.out] at h; rw [gE_get L _ hkl] at hu; exact h j u hu) (fun u hu => by rw [gE_get L _ hkl] at hu; have h := entA_one L[k].1.id.f L[k].1.N.au L[k].1.N.ck L[k].2.1 L[k].2.2 (by rw [hp1.out]; rfl) (by rw [hq1.out]; rfl); rw [← Array.all_toList, List.all_eq_true] at h; exact h u hu) (by have := hml.out; have := HLn.out; omega) hbt (Nat.le_trans DBx.out.size LBy.out.size) fun v3 wz h1 h2 => ?_
       have JOz : Keep (wz.ownsRow w2.heap.size 52 36 v3 (ms ++ [k]).length (((ms ++ [k]).map (gE L)).flatMap encE)) := ⟨by rw [List.length_append, List.length_singleton, List.map_append, List.flatMap_append]; simpa using h1⟩
       have GZ : Keep (Grown wy wz fun k => uo.ownBlock = some k) := ⟨Grown.of h2 fun k _ e => e⟩
       have DUz : Keep (Blk wz gu 4 (flg L.length (ms ++ [k])).toArray) := ⟨GZ.out.blk (DUx.out.below LBy.out DUx.out.lt) fun e => absurd ((owns_typ JOy.out gu e).one (DUx.out.below LBy.out DUx.out.lt).typ) (by decide)⟩
       have DBz : Keep (Below w2.heap.size w2 wz) := ⟨(belowC DBx.out LBy.out).trans (GZ.out.to_below (fun j hj e => by have := owns_block JOy.out j e; omega) (Nat.le_trans DBx.out.size LBy.out.size))⟩
       clear h1 h2 hIb hbt
       simp only [Act.put, pqA, pqB, pqC]
       refine VlS (v3) ?_
       refine WL.nil (hK42 _ _ ?_)
       refine rgn ?_
       refine VlS (.int .i64 ((t + 1 : Nat) : Int)) ?_
       refine VlS (.int .i64 ((t + 1 : Nat) : Int)) ?_
       refine WL.nil ?_
       refine ⟨⟨t + 1, fun zz => [.slice (some ⟨sb, so, none⟩) L.length sc, .slice (some ⟨nb, no, none⟩) ns.length nc, undef, undef, .bool false, .pointer (some ⟨p, 0, none⟩), .int .i64 0, .int .i64 0, .slice ra L.length rc, f 9, f 10, f 11, fb 12, fb 13, v3, .slice (some ⟨gu, 0, none⟩) L.length L.length, undef, .int .i64 (k : Int), undef, undef, undef, undef, .bool true, .bool false, .tuple #[.pointer (some ⟨p, 0, none⟩), .int .i64 0, .int .i64 0], .slice (some ⟨sb, so, none⟩) L.length sc, .tuple #[.pointer (some ⟨p, 0, none⟩), .int .i64 0, .int .i64 0], .pointer (some ⟨p, 0, none⟩), .int .i64 0, .int .i64 0, .int .i64 0, .bool false, .bool false, .pointer (some ⟨p, 0, none⟩), .bool false, .bool false, undef, undef, undef, undef, undef, undef, .pointer (some ⟨p, 0, none⟩), .int .i64 (L.length : Int), .slice (some ⟨sb, so, none⟩) L.length sc, .int .i64 (L.length : Int), .bool false, .slice (some ⟨w2.heap.size, 0, none⟩) 0 0, .slice (some ⟨sb, so, none⟩) L.length sc, .int .i64 (L.length : Int), .int .i64 (L.length : Int), .bool false, f 52, f 53, f 54, f 55, f 56, f 57, f 58, f 59, f 60, f 61, f 62, f 63, f 64, f 65, f 66, f 67, f 68, f 69, f 70, f 71, f 72, .slice ra L.length rc, .int .i64 (L.length : Int), .int .i64 (i : Int), .bool false, fb 77, fb 78, fb 79, fb 80, fb 81, fb 82, fb 83, fb 84, fb 85, fb 86, fb 87, fb 88, fb 89, fb 90, fb 91, fb 92, fb 93, fb 94, fb 95, fb 96, fb 97, fb 98, fb 99, fb 100, fb 101, fb 102, fb 103, fb 104, fb 105, fb 106, fb 107, .slice (some ⟨wb_.heap.size, 0, none⟩) 0 0, .slice (some ⟨sb, so, none⟩) L.length sc, .int .i64 (L.length : Int), .slice (some ⟨gu, 0, none⟩) L.length L.length, .slice (some ⟨nb, no, none⟩) ns.length nc, .int .i64 (ns.length : Int), .int .i64 ((t + 1 : Nat) : Int), .bool true, .pointer (some ⟨nb, no + t, none⟩), .int .i64 (k : Int), .int .i64 (k : Int), .bool true, .bool true, .int .i64 (k : Int), .slice (some ⟨sb, so, none⟩) L.length sc, .int .i64 (L.length : Int), .bool true, .bool true, .bool true, .slice (some ⟨gu, 0, none⟩) L.length L.length, .int .i64 (k : Int), .pointer (some ⟨gu, k, none⟩), .bool false, .bool true, .bool true, .slice (some ⟨gu, 0, none⟩) L.length L.length, .int .i64 (k : Int), .pointer (some ⟨gu, k, none⟩), uo, .slice (some ⟨sb, so, none⟩) L.length sc, .int .i64 (k : Int), .pointer (some ⟨sb, so + k * 36, none⟩), .agg ee, .slice (some ⟨wx.heap.size, 0, none⟩) 1 1, v3, .int .i64 ((t + 1 : Nat) : Int), undef, undef, undef, undef, undef, undef, undef, undef, undef, undef, undef, undef, undef, undef, undef, undef, undef, undef, undef, undef, undef, undef, undef, undef, undef, undef, undef, undef, undef, undef, undef].getD zz undef, v3, rfl, by omega, DBz.out, ?_, ?_⟩, by simp [intOf]; omega⟩
       ·rw [hsel.out, hsa.out]; exact JOz.out
       ·rw [hsel.out, hsa.out]; exact DUz.out
     ·have hsa : Keep (selA L.length ms x = ms) := ⟨by unfold selA; rw [if_neg (fun h => hxl h.2.1)]⟩
      refine rgn ?_
      refine VlS (.int .i64 x) ?_
      refine VlS (.bool true) ?_
      refine VlS (.bool true) ?_
      refine VlS (.int .i64 x) ?_
      refine VlS (.slice sa L.length sc) ?_
      refine VlS (.int .i64 (L.length : Int)) ?_
      refine VlS (.bool false) ?_
      refine VlS (.bool false) ?_
      refine VlS (.bool false) ?_
      refine SkS ?_
      refine SkS ?_
      refine SkS ?_
      refine SkS ?_
      refine SkS ?_
      refine VlS (.bool false) ?_
      refine WL.nil (hK44 _ _ ?_)
      refine wp_cond_false rfl ?_
      refine wp_skip ?_
      refine hK42 _ _ ?_
      refine rgn ?_
      refine VlS (.int .i64 ((t + 1 : Nat) : Int)) ?_
      refine VlS (.int .i64 ((t + 1 : Nat) : Int)) ?_
      refine WL.nil ?_
      refine ⟨⟨t + 1, fun zz => [.slice sa L.length sc, .slice (some ⟨nb, no, none⟩) ns.length nc, undef, undef, .bool false, .pointer (some ⟨p, 0, none⟩), .int .i64 0, .int .i64 0, .slice ra L.length rc, f 9, f 10, f 11, fb 12, fb 13, uo, .slice (some ⟨gu, 0, none⟩) L.length L.length, undef, .int .i64 x, undef, undef, undef, undef, .bool true, .bool false, .tuple #[.pointer (some ⟨p, 0, none⟩), .int .i64 0, .int .i64 0], .slice sa L.length sc, .tuple #[.pointer (some ⟨p, 0, none⟩), .int .i64 0, .int .i64 0], .pointer (some ⟨p, 0, none⟩), .int .i64 0, .int .i64 0, .int .i64 0, .bool false, .bool false, .pointer (some ⟨p, 0, none⟩), .bool false, .bool false, undef, undef, undef, undef, undef, undef, .pointer (some ⟨p, 0, none⟩), .int .i64 (L.length : Int), .slice sa L.length sc, .int .i64 (L.length : Int), .bool false, .slice (some ⟨w2.heap.size, 0, none⟩) 0 0, .slice sa L.length sc, .int .i64 (L.length : Int), .int .i64 (L.length : Int), .bool false, f 52, f 53, f 54, f 55, f 56, f 57, f 58, f 59, f 60, f 61, f 62, f 63, f 64, f 65, f 66, f 67, f 68, f 69, f 70, f 71, f 72, .slice ra L.length rc, .int .i64 (L.length : Int), .int .i64 (i : Int), .bool false, fb 77, fb 78, fb 79, fb 80, fb 81, fb 82, fb 83, fb 84, fb 85, fb 86, fb 87, fb 88, fb 89, fb 90, fb 91, fb 92, fb 93, fb 94, fb 95, fb 96, fb 97, fb 98, fb 99, fb 100, fb 101, fb 102, fb 103, fb 104, fb 105, fb 106, fb 107, .slice (some ⟨wb_.heap.size, 0, none⟩) 0 0, .slice sa L.length sc, .int .i64 (L.length : Int), .slice (some ⟨gu, 0, none⟩) L.length L.length, .slice (some ⟨nb, no, none⟩) ns.length nc, .int .i64 (ns.length : Int), .int .i64 ((t + 1 : Nat) : Int), .bool true, .pointer (some ⟨nb, no + t, none⟩), .int .i64 x, .int .i64 x, .bool true, .bool true, .int .i64 x, .slice sa L.length sc, .int .i64 (L.length : Int), .bool false, .bool false, .bool false, undef, undef, undef, undef, undef, .bool false, fd 133, fd 134, fd 135, fd 136, fd 137, fd 138, fd 139, fd 140, fd 141, fd 142, .int .i64 ((t + 1 : Nat) : Int), undef, undef, undef, undef, undef, undef, undef, undef, undef, undef, undef, undef, undef, undef, undef, undef, undef, undef, undef, undef, undef, undef, undef, undef, undef, undef, undef, undef, undef, undef, undef].getD zz undef, uo, rfl, by omega, DB.out, ?_, ?_⟩, by simp [intOf]; omega⟩
      ·rw [hsel.out, hsa.out]; exact DO.out
      ·rw [hsel.out, hsa.out]; exact DU.out
    ·have hsa : Keep (selA L.length ms x = ms) := ⟨by unfold selA; rw [if_neg (fun h => hx0 h.1)]⟩
     refine rgn ?_
     refine VlS (.int .i64 x) ?_
     refine VlS (.bool false) ?_
     refine VlS (.bool false) ?_
     refine SkS ?_
     refine SkS ?_
     refine SkS ?_
     refine SkS ?_
     refine VlS (.bool false) ?_
     refine VlS (.bool false) ?_
     refine SkS ?_
     refine SkS ?_
     refine SkS ?_
     refine SkS ?_
     refine SkS ?_
     refine VlS (.bool false) ?_
     refine WL.nil (hK44 _ _ ?_)
     refine wp_cond_false rfl ?_
     refine wp_skip ?_
     refine hK42 _ _ ?_
     refine rgn ?_
     refine VlS (.int .i64 ((t + 1 : Nat) : Int)) ?_
     refine VlS (.int .i64 ((t + 1 : Nat) : Int)) ?_
     refine WL.nil ?_
     refine ⟨⟨t + 1, fun zz => [.slice sa L.length sc, .slice (some ⟨nb, no, none⟩) ns.length nc, undef, undef, .bool false, .pointer (some ⟨p, 0, none⟩), .int .i64 0, .int .i64 0, .slice ra L.length rc, f 9, f 10, f 11, fb 12, fb 13, uo, .slice (some ⟨gu, 0, none⟩) L.length L.length, undef, .int .i64 x, undef, undef, undef, undef, .bool true, .bool false, .tuple #[.pointer (some ⟨p, 0, none⟩), .int .i64 0, .int .i64 0], .slice sa L.length sc, .tuple #[.pointer (some ⟨p, 0, none⟩), .int .i64 0, .int .i64 0], .pointer (some ⟨p, 0, none⟩), .int .i64 0, .int .i64 0, .int .i64 0, .bool false, .bool false, .pointer (some ⟨p, 0, none⟩), .bool false, .bool false, undef, undef, undef, undef, undef, undef, .pointer (some ⟨p, 0, none⟩), .int .i64 (L.length : Int), .slice sa L.length sc, .int .i64 (L.length : Int), .bool false, .slice (some ⟨w2.heap.size, 0, none⟩) 0 0, .slice sa L.length sc, .int .i64 (L.length : Int), .int .i64 (L.length : Int), .bool false, f 52, f 53, f 54, f 55, f 56, f 57, f 58, f 59, f 60, f 61, f 62, f 63, f 64, f 65, f 66, f 67, f 68, f 69, f 70, f 71, f 72, .slice ra L.length rc, .int .i64 (L.length : Int), .int .i64 (i : Int), .bool false, fb 77, fb 78, fb 79, fb 80, fb 81, fb 82, fb 83, fb 84, fb 85, fb 86, fb 87, fb 88, fb 89, fb 90, fb 91, fb 92, fb 93, fb 94, fb 95, fb 96, fb 97, fb 98, fb 99, fb 100, fb 101, fb 102, fb 103, fb 104, fb 105, fb 106, fb 107, .slice (some ⟨wb_.heap.size, 0, none⟩) 0 0, .slice sa L.length sc, .int .i64 (L.length : Int), .slice (some ⟨gu, 0, none⟩) L.length L.length, .slice (some ⟨nb, no, none⟩) ns.length nc, .int .i64 (ns.length : Int), .int .i64 ((t + 1 : Nat) : Int), .bool true, .pointer (some ⟨nb, no + t, none⟩), .int .i64 x, .int .i64 x, .bool false, .bool false, undef, undef, undef, undef, .bool false, .bool false, undef, undef, undef, undef, undef, .bool false, fd 133, fd 134, fd 135, fd 136, fd 137, fd 138, fd 139, fd 140, fd 141, fd 142, .int .i64 ((t + 1 : Nat) : Int), undef, undef, undef, undef, undef, undef, undef, undef, undef, undef, undef, undef, undef, undef, undef, undef, undef, undef, undef, undef, undef, undef, undef, undef, undef, undef, undef, undef, undef, undef, undef].getD zz undef, uo, rfl, by omega, DB.out, ?_, ?_⟩, by simp [intOf]; omega⟩
     ·rw [hsel.out, hsa.out]; exact DO.out
     ·rw [hsel.out, hsa.out]; exact DU.out
   ·have hte : t = ns.length := by omega
    subst hte
    refine wp_seq_k fun K46 hK46 => rgn ?_
    refine VlS (.bool false) ?_
    refine WL.nil (hK46 _ _ ?_)
    refine wp_seq_k fun K47 hK47 => ?_
    refine wp_cond_false rfl ?_
    refine wp_exit ?_
    refine hK38 _ _ ?_
    refine wp_seq_k fun K48 hK48 => ?_
    refine wp_seq_k fun K49 hK49 => rgn ?_
    refine VlS (.slice sa L.length sc) ?_
    refine VlS (.int .i64 (L.length : Int)) ?_
    refine VlS (.int .i64 0) ?_
    refine WL.nil (hK49 _ _ ?_)
    refine wp_block ?_
    refine wp_loop (fun ac wr_ => ∃ (t : Nat) (fe : Nat → Value) (ue : Value), ac = { tmps := #[.slice sa L.length sc, .slice na ns.length nc, undef, undef, .bool false, .pointer (some ⟨p, 0, none⟩), .int .i64 0, .int .i64 0, .slice ra L.length rc, f 9, f 10, f 11, fb 12, fb 13, ue, .slice (some ⟨gu, 0, none⟩) L.length L.length, undef, fd 17, fe 18, undef, undef, undef, .bool true, .bool false, .tuple #[.pointer (some ⟨p, 0, none⟩), .int .i64 0, .int .i64 0], .slice sa L.length sc, .tuple #[.pointer (some ⟨p, 0, none⟩), .int .i64 0, .int .i64 0], .pointer (some ⟨p, 0, none⟩), .int .i64 0, .int .i64 0, .int .i64 0, .bool false, .bool false, .pointer (some ⟨p, 0, none⟩), .bool false, .bool false, undef, undef, undef, undef, undef, undef, .pointer (some ⟨p, 0, none⟩), .int .i64 (L.length : Int), .slice sa L.length sc, .int .i64 (L.length : Int), .bool false, .slice (some ⟨w2.heap.size, 0, none⟩) 0 0, .slice sa L.length sc, .int .i64 (L.length : Int), .int .i64 (L.length : Int), .bool false, f 52, f 53, f 54, f 55, f 56, f 57, f 58, f 59, f 60, f 61, f 62, f 63, f 64, f 65, f 66, f 67, f 68, f 69, f 70, f 71, f 72, .slice ra L.length rc, .int .i64 (L.length : Int), .int .i64 (i : Int), .bool false, fb 77, fb 78, fb 79, fb 80, fb 81, fb 82, fb 83, fb 84, fb 85, fb 86, fb 87, fb 88, fb 89, fb 90, fb 91, fb 92, fb 93, fb 94, fb 95, fb 96, fb 97, fb 98, fb 99, fb 100, fb 101, fb 102, fb 103, fb 104, fb 105, fb 106, fb 107, .slice (some ⟨wb_.heap.size, 0, none⟩) 0 0, .slice sa L.length sc, .int .i64 (L.length : Int), .slice (some ⟨gu, 0, none⟩) L.length L.length, .slice na ns.length nc, .int .i64 (ns.length : Int), .int .i64 (ns.length : Int), .bool false, fd 116, fd 117, fd 118, fd 119, fd 120, fd 121, fd 122, fd 123, fd 124, fd 125, fd 126, fd 127, fd 128, fd 129, fd 130, fd 131, fd 132, fd 133, fd 134, fd 135, fd 136, fd 137, fd 138, fd 139, fd 140, fd 141, fd 142, fd 143, .slice sa L.length sc, .int .i64 (L.length : Int), .int .i64 (t : Int), fe 147, fe 148, fe 149, fe 150, fe 151, fe 152, fe 153, fe 154, fe 155, fe 156, fe 157, fe 158, fe 159, fe 160, fe 161, undef, undef, undef, undef, undef, undef, undef, undef, undef, undef, undef, undef, undef], defers := [] } ∧ t ≤ L.length ∧ Below w2.heap.size w2 wr_ ∧ wr_.ownsRow w2.heap.size 52 36 ue (selB ms t).length (((selB ms t).map (gE L)).flatMap encE) ∧ Blk wr_ gu 4 (flg L.length ms).toArray) (fun a _ => L.length - (intOf (a.tmps.getD 146 undef)).toNat) ⟨0, fun zz => [.slice sa L.length sc, .slice na ns.length nc, undef, undef, .bool false, .pointer (some ⟨p, 0, none⟩), .int .i64 0, .int .i64 0, .slice ra L.length rc, f 9, f 10, f 11, fb 12, fb 13, uo, .slice (some ⟨gu, 0, none⟩) L.length L.length, undef, fd 17, undef, undef, undef, undef, .bool true, .bool false, .tuple #[.pointer (some ⟨p, 0, none⟩), .int .i64 0, .int .i64 0], .slice sa L.length sc, .tuple #[.pointer (some ⟨p, 0, none⟩), .int .i64 0, .int .i64 0], .pointer (some ⟨p, 0, none⟩), .int .i64 0, .int .i64 0, .int .i64 0, .bool false, .bool false, .pointer (some ⟨p, 0, none⟩), .bool false, .bool false, undef, undef, undef, undef, undef, undef, .pointer (some ⟨p, 0, none⟩), .int .i64 (L.length : Int), .slice sa L.length sc, .int .i64 (L.length : Int), .bool false, .slice (some ⟨w2.heap.size, 0, none⟩) 0 0, .slice sa L.length sc, .int .i64 (L.length : Int), .int .i64 (L.length : Int), .bool false, f 52, f 53, f 54, f 55, f 56, f 57, f 58, f 59, f 60, f 61, f 62, f 63, f 64, f 65, f 66, f 67, f 68, f 69, f 70, f 71, f 72, .slice ra L.length rc, .int .i64 (L.length : Int), .int .i64 (i : Int), .bool false, fb 77, fb 78, fb 79, fb 80, fb 81, fb 82, fb 83, fb 84, fb 85, fb 86, fb 87, fb 88, fb 89, fb 90, fb 91, fb 92, fb 93, fb 94, fb 95, fb 96, fb 97, fb 98, fb 99, fb 100, fb 101, fb 102, fb 103, fb 104, fb 105, fb 106, fb 107, .slice (some ⟨wb_.heap.size, 0, none⟩) 0 0, .slice sa L.length sc, .int .i64 (L.length : Int), .slice (some ⟨gu, 0, none⟩) L.length L.length, .slice na ns.length nc, .int .i64 (ns.length : Int), .int .i64 (ns.length : Int), .bool false, fd 116, fd 117, fd 118, fd 119, fd 120, fd 121, fd 122, fd 123, fd 124, fd 125, fd 126, fd 127, fd 128, fd 129, fd 130, fd 131, fd 132, fd 133, fd 134, fd 135, fd 136, fd 137, fd 138, fd 139, fd 140, fd 141, fd 142, fd 143, .slice sa L.length sc, .int .i64 (L.length : Int), .int .i64 0, undef, undef, undef, undef, undef, undef, undef, undef, undef, undef, undef, undef, undef, undef, undef, undef, undef, undef, undef, undef, undef, undef, undef, undef, undef, undef, undef, undef].getD zz undef, uo, rfl, by omega, DB.out, by rw [selB_zero]; exact DO.out, DU.out⟩ ?_
    rintro ac wr_ ⟨t, fe, ue, rfl, ht, hB, hO, hU⟩
    have EB := Keep.mk hB
    have EO := Keep.mk hO
    have EU := Keep.mk hU
    clear hB hO hU
    have hmb := selB_ok hmo.out (Nat.le_of_eq rfl : L.length ≤ L.length)
    clear hmb
    have hto := selB_ok hmo.out ht
    have hml2 : Keep ((selB ms t).length ≤ L.length) := ⟨len_below hto.1 hto.2⟩
    clear hto
    have EW : Keep (Below w.heap.size w wr_) := ⟨B2.out.trans (EB.out.mono B2.out.size)⟩
    by_cases htl : t < L.length
    ·have htl' : (t : Int) < (L.length : Int) := by omega
     have ht0 : (0 : Int) ≤ (t : Int) := by omega
     have hwt : IntKind.i64.wrap ((t : Int) + 1) = ((t + 1 : Nat) : Int) := by rw [IntKind.wrap_i64]; have := HLn.out; omega
     have cu : wr_.cell? ⟨gu, t, none⟩ = some (.bool (decide (t ∈ ms))) := EU.out.c t (by rw [List.getElem?_toArray]; exact flg_get _ _ _ htl)
     by_cases htm : t ∈ ms
     ·rw [decide_eq_true htm] at cu
      have hsb : Keep (selB ms (t + 1) = selB ms t) := ⟨by rw [selB_succ, if_pos htm]⟩
      refine wp_seq_k fun K50 hK50 => rgn ?_
      refine VlS (.bool true) ?_
      refine WL.nil (hK50 _ _ ?_)
      refine wp_seq_k fun K51 hK51 => ?_
      refine wp_cond_true rfl ?_
      refine wp_skip ?_
      refine hK51 _ _ ?_
      refine wp_seq_k fun K52 hK52 => ?_
      refine wp_block ?_
      refine wp_seq_k fun K53 hK53 => rgn ?_
      refine VlS (.int .i64 (t : Int)) ?_
      refine VlS (.int .i64 (t : Int)) ?_
      refine WL.nil (hK53 _ _ ?_)
      refine wp_seq_k fun K54 hK54 => rgn ?_
      refine VlS (.slice (some ⟨gu, 0, none⟩) L.length L.length) ?_
      refine VlS (.int .i64 (t : Int)) ?_
      refine VlS (.pointer (some ⟨gu, t, none⟩)) ?_
      refine VlS (.bool true) ?_
      refine VlS (.bool false) ?_
      refine WL.nil (hK54 _ _ ?_)
      refine wp_cond_false rfl ?_
      refine wp_skip ?_
      refine hK52 _ _ ?_
      refine rgn ?_
      refine VlS (.int .i64 ((t + 1 : Nat) : Int)) ?_
      refine VlS (.int .i64 ((t + 1 : Nat) : Int)) ?_
      refine WL.nil ?_
      refine ⟨⟨t + 1, fun zz => [.slice sa L.length sc, .slice na ns.length nc, undef, undef, .bool false, .pointer (some ⟨p, 0, none⟩), .int .i64 0, .int .i64 0, .slice ra L.length rc, f 9, f 10, f 11, fb 12, fb 13, ue, .slice (some ⟨gu, 0, none⟩) L.length L.length, undef, fd 17, .int .i64 (t : Int), undef, undef, undef, .bool true, .bool false, .tuple #[.pointer (some ⟨p, 0, none⟩), .int .i64 0, .int .i64 0], .slice sa L.length sc, .tuple #[.pointer (some ⟨p, 0, none⟩), .int .i64 0, .int .i64 0], .pointer (some ⟨p, 0, none⟩), .int .i64 0, .int .i64 0, .int .i64 0, .bool false, .bool false, .pointer (some ⟨p, 0, none⟩), .bool false, .bool false, undef, undef, undef, undef, undef, undef, .pointer (some ⟨p, 0, none⟩), .int .i64 (L.length : Int), .slice sa L.length sc, .int .i64 (L.length : Int), .bool false, .slice (some ⟨w2.heap.size, 0, none⟩) 0 0, .slice sa L.length sc, .int .i64 (L.length : Int), .int .i64 (L.length : Int), .bool false, f 52, f 53, f 54, f 55, f 56, f 57, f 58, f 59, f 60, f 61, f 62, f 63, f 64, f 65, f 66, f 67, f 68, f 69, f 70, f 71, f 72, .slice ra L.length rc, .int .i64 (L.length : Int), .int .i64 (i : Int), .bool false, fb 77, fb 78, fb 79, fb 80, fb 81, fb 82, fb 83, fb 84, fb 85, fb 86, fb 87, fb 88, fb 89, fb 90, fb 91, fb 92, fb 93, fb 94, fb 95, fb 96, fb 97, fb 98, fb 99, fb 100, fb 101, fb 102, fb 103, fb 104, fb 105, fb 106, fb 107, .slice (some ⟨wb_.heap.size, 0, none⟩) 0 0, .slice sa L.length sc, .int .i64 (L.length : Int), .slice (some ⟨gu, 0, none⟩) L.length L.length, .slice na ns.length nc, .int .i64 (ns.length : Int), .int .i64 (ns.length : Int), .bool false, fd 116, fd 117, fd 118, fd 119, fd 120, fd 121, fd 122, fd 123, fd 124, fd 125, fd 126, fd 127, fd 128, fd 129, fd 130, fd 131, fd 132, fd 133, fd 134, fd 135, fd 136, fd 137, fd 138, fd 139, fd 140, fd 141, fd 142, fd 143, .slice sa L.length sc, .int .i64 (L.length : Int), .int .i64 ((t + 1 : Nat) : Int), .bool true, .int .i64 (t : Int), .slice (some ⟨gu, 0, none⟩) L.length L.length, .int .i64 (t : Int), .pointer (some ⟨gu, t, none⟩), .bool true, .bool false, fe 154, fe 155, fe 156, fe 157, fe 158, fe 159, fe 160, .int .i64 ((t + 1 : Nat) : Int), undef, undef, undef, undef, undef, undef, undef, undef, undef, undef, undef, undef, undef].getD zz undef, ue, rfl, by omega, EB.out, ?_, EU.out⟩, by simp [intOf]; omega⟩
      rw [hsb.out]; exact EO.out
     ·rw [decide_eq_false htm] at cu
      have hsb : Keep (selB ms (t + 1) = selB ms t ++ [t]) := ⟨by rw [selB_succ, if_neg htm]⟩
      obtain ⟨sb, so, hsa2, hrg⟩ := esl_range (HS.out.below EW.out) htl
      subst hsa2
      obtain ⟨pa, pc, hp1⟩ : ∃ a c, Keep (L[t].2.1 = .slice a L[t].1.N.ps.length c) := by obtain ⟨a, c, e⟩ := (HI.out _ (List.getElem_mem htl)).ps.form; exact ⟨a, c, ⟨e⟩⟩
      obtain ⟨qa, qc, hq1⟩ : ∃ a c, Keep (L[t].2.2 = .slice a L[t].1.N.ops.length c) := by obtain ⟨a, c, e⟩ := (HI.out _ (List.getElem_mem htl)).ops.form; exact ⟨a, c, ⟨e⟩⟩
      obtain ⟨ee, hee⟩ : ∃ a : Array Value, Keep (a = entA L[t].1.id.f L[t].1.N.au L[t].1.N.ck L[t].2.1 L[t].2.2) := ⟨_, ⟨rfl⟩⟩
      have HRg : Keep (wr_.rangeAt sb (so + t * 36) ee.toList) := ⟨by rw [hee.out]; exact hrg⟩
      clear hrg
      refine wp_seq_k fun K55 hK55 => rgn ?_
      refine VlS (.bool true) ?_
      refine WL.nil (hK55 _ _ ?_)
      refine wp_seq_k fun K56 hK56 => ?_
      refine wp_cond_true rfl ?_
      refine wp_skip ?_
      refine hK56 _ _ ?_
      refine wp_seq_k fun K57 hK57 => ?_
      refine wp_block ?_
      refine wp_seq_k fun K58 hK58 => rgn ?_
      refine VlS (.int .i64 (t : Int)) ?_
      refine VlS (.int .i64 (t : Int)) ?_
      refine WL.nil (hK58 _ _ ?_)
      refine wp_seq_k fun K59 hK59 => rgn ?_
      refine VlS (.slice (some ⟨gu, 0, none⟩) L.length L.length) ?_
      refine VlS (.int .i64 (t : Int)) ?_
      refine VlS (.pointer (some ⟨gu, t, none⟩)) ?_
      refine VlS (.bool false) ?_
      refine VlS (.bool true) ?_
      refine WL.nil (hK59 _ _ ?_)
      refine wp_cond_true rfl ?_
      refine rgn ?_
      refine VlS (ue) ?_
      refine VlS (.slice (some ⟨sb, so, none⟩) L.length sc) ?_
      refine VlS (.int .i64 (t : Int)) ?_
      refine VlS (.pointer (some ⟨sb, so + t * 36, none⟩)) ?_
      refine WL.midA (by kernel_rfl) 52 (.tmp 157) rfl sb (so + t * 36) rfl ee _ HRg.out Tryz.underlying52 rfl (by rw [hee.out]; exact sizeE _ _ _ _ _) ?_
      simp only [Act.put, pqA, pqB, pqC]
      have hbs := bsE1 L[t].1.id.f L[t].1.N.au L[t].1.N.ck pa qa L[t].1.N.ps.length L[t].1.N.ops.length pc qc wr_
      rw [← hp1.out, ← hq1.out, ← hee.out] at hbs
      refine WL.bs (by kernel_rfl) 23 1 _ rfl #[(0, .agg ee)] (by simp [Act.eval]) _ _ hbs ?_
      clear hbs
      obtain ⟨wy, hwy⟩ : ∃ wq, Keep (wq = wr_.alloc (.cells ee 52)) := ⟨_, ⟨rfl⟩⟩
      rw [← hwy.out]
      have HBy : Keep (Blk wy wr_.heap.size 52 ee) := ⟨by rw [hwy.out]; exact Blk.new _ _ _⟩
      have LBy : Keep (Below wr_.heap.size wr_ wy) := ⟨by rw [hwy.out]; exact below_new _ _⟩
      clear hwy
      have JOy := Keep.mk (owns_grown EO.out (Grown.below (S := fun _ => False) LBy.out) fun _ _ h => h)
      simp only [Act.put, pqA, pqB, pqC]
      obtain ⟨bt, hbt, hIb⟩ := infoC52
      refine WL.appG (by kernel_rfl) 23 52 36 bt _ Tryz.underlying23 hIb (by kernel_rfl) (by decide) (.tmp 154) (.tmp 159) rfl w2.heap.size _ ⟨wr_.heap.size, 0, none⟩ (selB ms t).length 1 1 _ (encE (gE L t)) rfl rfl JOy.out (by rw [encE_len]) (fun j u hu => by rw [Addr.add_mid]; have h := blk_range HBy.out; rw [hee.out] at h; rw [gE_get L _ htl] at hu; exact h j u hu) (fun u hu => by rw [gE_get L _ htl] at hu; have h := entA_one L[t].1.id.f L[t].1.N.au L[t].1.N.ck L[t].2.1 L[t].2.2 (by rw [hp1.out]; rfl) (by rw [hq1.out]; rfl); rw [← Array.all_toList, List.all_eq_true] at h; exact h u hu) (by have := hml2.out; have := HLn.out; omega) hbt (Nat.le_trans EB.out.size LBy.out.size) fun v3 wz h1 h2 => ?_
      have JOz : Keep (wz.ownsRow w2.heap.size 52 36 v3 (selB ms t ++ [t]).length (((selB ms t ++ [t]).map (gE L)).flatMap encE)) := ⟨by rw [List.length_append, List.length_singleton, List.map_append, List.flatMap_append]; simpa using h1⟩
      have GZ : Keep (Grown wy wz fun k => ue.ownBlock = some k) := ⟨Grown.of h2 fun k _ e => e⟩
      have EUz : Keep (Blk wz gu 4 (flg L.length ms).toArray) := ⟨GZ.out.blk (EU.out.below LBy.out EU.out.lt) fun e => absurd ((owns_typ JOy.out gu e).one (EU.out.below LBy.out EU.out.lt).typ) (by decide)⟩
      have EBz : Keep (Below w2.heap.size w2 wz) := ⟨(belowC EB.out LBy.out).trans (GZ.out.to_below (fun j hj e => by have := owns_block JOy.out j e; omega) (Nat.le_trans EB.out.size LBy.out.size))⟩
      clear h1 h2 hIb hbt
      simp only [Act.put, pqA, pqB, pqC]
      refine VlS (v3) ?_
      refine WL.nil (hK57 _ _ ?_)
      refine rgn ?_
      refine VlS (.int .i64 ((t + 1 : Nat) : Int)) ?_
      refine VlS (.int .i64 ((t + 1 : Nat) : Int)) ?_
      refine WL.nil ?_
      refine ⟨⟨t + 1, fun zz => [.slice (some ⟨sb, so, none⟩) L.length sc, .slice na ns.length nc, undef, undef, .bool false, .pointer (some ⟨p, 0, none⟩), .int .i64 0, .int .i64 0, .slice ra L.length rc, f 9, f 10, f 11, fb 12, fb 13, v3, .slice (some ⟨gu, 0, none⟩) L.length L.length, undef, fd 17, .int .i64 (t : Int), undef, undef, undef, .bool true, .bool false, .tuple #[.pointer (some ⟨p, 0, none⟩), .int .i64 0, .int .i64 0], .slice (some ⟨sb, so, none⟩) L.length sc, .tuple #[.pointer (some ⟨p, 0, none⟩), .int .i64 0, .int .i64 0], .pointer (some ⟨p, 0, none⟩), .int .i64 0, .int .i64 0, .int .i64 0, .bool false, .bool false, .pointer (some ⟨p, 0, none⟩), .bool false, .bool false, undef, undef, undef, undef, undef, undef, .pointer (some ⟨p, 0, none⟩), .int .i64 (L.length : Int), .slice (some ⟨sb, so, none⟩) L.length sc, .int .i64 (L.length : Int), .bool false, .slice (some ⟨w2.heap.size, 0, none⟩) 0 0, .slice (some ⟨sb, so, none⟩) L.length sc, .int .i64 (L.length : Int), .int .i64 (L.length : Int), .bool false, f 52, f 53, f 54, f 55, f 56, f 57, f 58, f 59, f 60, f 61, f 62, f 63, f 64, f 65, f 66, f 67, f 68, f 69, f 70, f 71, f 72, .slice ra L.length rc, .int .i64 (L.length : Int), .int .i64 (i : Int), .bool false, fb 77, fb 78, fb 79, fb 80, fb 81, fb 82, fb 83, fb 84, fb 85, fb 86, fb 87, fb 88, fb 89, fb 90, fb 91, fb 92, fb 93, fb 94, fb 95, fb 96, fb 97, fb 98, fb 99, fb 100, fb 101, fb 102, fb 103, fb 104, fb 105, fb 106, fb 107, .slice (some ⟨wb_.heap.size, 0, none⟩) 0 0, .slice (some ⟨sb, so, none⟩) L.length sc, .int .i64 (L.length : Int), .slice (some ⟨gu, 0, none⟩) L.length L.length, .slice na ns.length nc, .int .i64 (ns.length : Int), .int .i64 (ns.length : Int), .bool false, fd 116, fd 117, fd 118, fd 119, fd 120, fd 121, fd 122, fd 123, fd 124, fd 125, fd 126, fd 127, fd 128, fd 129, fd 130, fd 131, fd 132, fd 133, fd 134, fd 135, fd 136, fd 137, fd 138, fd 139, fd 140, fd 141, fd 142, fd 143, .slice (some ⟨sb, so, none⟩) L.length sc, .int .i64 (L.length : Int), .int .i64 ((t + 1 : Nat) : Int), .bool true, .int .i64 (t : Int), .slice (some ⟨gu, 0, none⟩) L.length L.length, .int .i64 (t : Int), .pointer (some ⟨gu, t, none⟩), .bool false, .bool true, ue, .slice (some ⟨sb, so, none⟩) L.length sc, .int .i64 (t : Int), .pointer (some ⟨sb, so + t * 36, none⟩), .agg ee, .slice (some ⟨wr_.heap.size, 0, none⟩) 1 1, v3, .int .i64 ((t + 1 : Nat) : Int), undef, undef, undef, undef, undef, undef, undef, undef, undef, undef, undef, undef, undef].getD zz undef, v3, rfl, by omega, EBz.out, ?_, EUz.out⟩, by simp [intOf]; omega⟩
      rw [hsb.out]; exact JOz.out
    ·have hte : t = L.length := by omega
     subst hte
     obtain ⟨O, hO⟩ : ∃ O, Keep ((selB ms L.length).map (gE L) = O) := ⟨_, ⟨rfl⟩⟩
     have hOp : Keep ((exs O).Perm (exs L)) := ⟨by rw [← hO.out]; exact sel_perm hmo.out⟩
     have hOi : Keep (EIn wr_ O) := ⟨by rw [← hO.out]; exact sel_in (HI.out.below EW.out) (selB_ok hmo.out (Nat.le_refl _)).2⟩
     have hOl : Keep (O.length = L.length) := ⟨by have := hOp.out.length_eq; rwa [exs_len, exs_len] at this⟩
     have hEO := EO.out
     rw [hO.out, show (selB ms L.length).length = O.length from by rw [← hO.out, List.length_map]] at hEO
     have hOs : Keep (ESl wr_ ue O) := ⟨by
      rcases (owns_sl hEO).2 with ⟨a, c, e, h0⟩ | ⟨b, off, c, e, h1, h2⟩
      ·exact .inl ⟨a, c, e, List.eq_nil_of_length_eq_zero h0⟩
      ·exact .inr ⟨b, off, c, e, h1, h2⟩⟩
     clear hEO
     have HGO : Keep (Good (exs O)) := ⟨HG.out.perm hOp.out⟩
     have HPr := Keep.mk (HP.out.below EB.out)
     refine wp_seq_k fun K60 hK60 => rgn ?_
     refine VlS (.bool false) ?_
     refine WL.nil (hK60 _ _ ?_)
     refine wp_seq_k fun K61 hK61 => ?_
     refine wp_cond_false rfl ?_
     refine wp_exit ?_
     refine hK48 _ _ ?_
     refine wp_seq_k fun K62 hK62 => rgn ?_
     refine VlS (ue) ?_
     refine WL.callF (by kernel_rfl) 10 _ _ rfl Tryz.in10 #[ue] (by simp [Act.eval]) ?_
     refine (of_any ue O wr_ hOs.out hOi.out (by rw [hOl.out]; exact HL.out)).mono ?_
     rintro e wo (⟨p', K, U, rfl, hP'⟩ | ⟨-, i', hi', -, hne, -⟩ | ⟨-, -, i', hi', -, hne, -⟩)
     rotate_left
     ·exact absurd (HGO.out.al i' (by rw [exs_len]; exact hi')) hne
     ·exact absurd (HGO.out.tg i' (by rw [exs_len]; exact hi')) hne
     refine ⟨_, rfl, ?_⟩
     have HP2 := Keep.mk hP'
     have HPo := Keep.mk (HPr.out.below hP'.bel)
     have FW : Keep (Below w.heap.size w wo) := ⟨belowC EW.out hP'.bel⟩
     clear hP'
     simp only [Act.put, pqA, pqB, pqC]
     refine VlS (.tuple #[.pointer (some ⟨p', 0, none⟩), .int .i64 0, .int .i64 0]) ?_
     refine VlS (.pointer (some ⟨p', 0, none⟩)) ?_
     refine VlS (.int .i64 0) ?_
     refine VlS (.int .i64 0) ?_
     refine VlS (.pointer (some ⟨p', 0, none⟩)) ?_
     refine VlS (.int .i64 0) ?_
     refine VlS (.int .i64 0) ?_
     refine WL.nil (hK62 _ _ ?_)
     refine wp_seq_k fun K63 hK63 => rgn ?_
     refine VlS (.int .i64 0) ?_
     refine VlS (.bool true) ?_
     refine VlS (.bool true) ?_
     refine VlS (.pointer (some ⟨p, 0, none⟩)) ?_
     refine VlS (.pointer (some ⟨p', 0, none⟩)) ?_
     obtain ⟨v1, x1, mb1, ub1, mc1, uc1, hsame⟩ := same_of HPo.out HP2.out hOp.out
     refine WL.callF (by kernel_rfl) 22 _ _ rfl Tryz.in22 #[.pointer (some ⟨p, 0, none⟩), .pointer (some ⟨p', 0, none⟩)] (by simp [Act.eval]) ?_
     refine (same_law p p' H K S U v1 x1 mb1 ub1 mc1 uc1 wo hsame).mono ?_
     rintro e wv ⟨rfl, hb⟩
     refine ⟨_, rfl, ?_⟩
     simp only [Act.put, pqA, pqB, pqC]
     refine VlS (.bool true) ?_
     refine VlS (.bool true) ?_
     refine WL.nil (hK63 _ _ ?_)
     refine wp_ret ?_
     go_ret
     exact ⟨rfl, belowC FW.out hb⟩
set_option maxRecDepth 16000 in
set_option maxHeartbeats 4000000 in
theorem orders_any (v0 : Value) (L : List EP) (v1 : Value) (ns : List Int) (w : World) (hs : ESl w v0 L) (hi : EIn w L) (hn : IRow w v1 ns) (hL : L.length ≤ 4398046511104) (hN : ns.length ≤ 17592186044416) : Calls Tryz.prog 6 #[v0, v1] w fun e w' => e = .returned (.bool true) ∧ Below w.heap.size w w' := by
 by_cases hok : ∀ i, i < L.length → al1 (exs L) i = 0
 rotate_left
 ·obtain ⟨sa, sc, rfl⟩ := hs.form
  obtain ⟨na, nc, rfl⟩ := hn.form
  have HS := Keep.mk hs
  have HI := Keep.mk hi
  have HL := Keep.mk hL
  have hbad := hok
  clear hs hi hL
  go_enter Tryz.func6, Tryz.ntmps6
  refine wp_seq_k fun K1 hK1 => rgn ?_
  refine VlS (.bool false) ?_
  refine WL.nil (hK1 _ _ ?_)
  refine wp_seq_k fun K2 hK2 => ?_
  refine wp_seq_k fun K3 hK3 => rgn ?_
  refine WL.callF (by kernel_rfl) 9 _ _ rfl Tryz.in9 #[] (by simp) ?_
  refine (awake_any w).mono ?_
  rintro e w1 ⟨rfl, hb⟩
  refine ⟨_, rfl, ?_⟩
  have B1 := Keep.mk hb
  clear hb
  simp only [Act.put, pqA, pqB, pqC]
  refine VlS (.bool false) ?_
  refine WL.nil (hK3 _ _ ?_)
  refine wp_cond_false rfl ?_
  refine wp_skip ?_
  refine hK2 _ _ ?_
  refine wp_seq_k fun K4 hK4 => rgn ?_
  refine VlS (.slice sa L.length sc) ?_
  refine WL.callF (by kernel_rfl) 10 _ _ rfl Tryz.in10 #[.slice sa L.length sc] (by simp [Act.eval]) ?_
  refine (of_any _ L w1 (HS.out.below B1.out) (HI.out.below B1.out) HL.out).mono ?_
  rintro e w2 (⟨p, H, S, -, hP⟩ | ⟨hb, i, hi, -, hne, rfl⟩ | ⟨-, h, -⟩)
  ·exact absurd (fun i hi => hP.good.al i (by rw [exs_len]; exact hi)) hbad
  rotate_left
  ·exact absurd h hbad
  refine ⟨_, rfl, ?_⟩
  obtain ⟨c, hc⟩ : ∃ c, Keep (al1 (exs L) i = c) := ⟨_, ⟨rfl⟩⟩
  rw [hc.out]
  have hc0 : ¬ c = 0 := by rw [← hc.out]; exact hne
  simp only [Act.put, pqA, pqB, pqC]
  refine VlS (.tuple #[.pointer none, .int .i64 c, .int .i64 (i : Int)]) ?_
  refine VlS (.pointer none) ?_
  refine VlS (.int .i64 c) ?_
  refine VlS (.int .i64 (i : Int)) ?_
  refine VlS (.pointer none) ?_
  refine VlS (.int .i64 c) ?_
  refine VlS (.int .i64 (i : Int)) ?_
  refine WL.nil (hK4 _ _ ?_)
  refine wp_seq_k fun K5 hK5 => ?_
  refine wp_seq_k fun K6 hK6 => rgn ?_
  refine VlS (.int .i64 c) ?_
  refine VlS (.bool true) ?_
  refine VlS (.bool true) ?_
  refine SkS ?_
  refine SkS ?_
  refine VlS (.bool true) ?_
  refine WL.nil (hK6 _ _ ?_)
  refine wp_cond_true rfl ?_
  refine wp_seq_k fun K7 hK7 => rgn ?_
  refine VlS (.int .i64 c) ?_
  refine VlS (.bool true) ?_
  refine VlS (.bool true) ?_
  refine VlS (.pointer none) ?_
  refine VlS (.bool true) ?_
  refine VlS (.bool true) ?_
  refine VlS (.bool true) ?_
  refine WL.nil (hK7 _ _ ?_)
  refine wp_ret ?_
  go_ret
  exact ⟨rfl, belowC B1.out hb⟩
 by_cases hok2 : ∀ i, i < L.length → tg1 (exs L) i = 0
 rotate_left
 ·obtain ⟨sa, sc, rfl⟩ := hs.form
  obtain ⟨na, nc, rfl⟩ := hn.form
  have HS := Keep.mk hs
  have HI := Keep.mk hi
  have HL := Keep.mk hL
  have hbad := hok2
  clear hs hi hL
  go_enter Tryz.func6, Tryz.ntmps6
  refine wp_seq_k fun K1 hK1 => rgn ?_
  refine VlS (.bool false) ?_
  refine WL.nil (hK1 _ _ ?_)
  refine wp_seq_k fun K2 hK2 => ?_
  refine wp_seq_k fun K3 hK3 => rgn ?_
  refine WL.callF (by kernel_rfl) 9 _ _ rfl Tryz.in9 #[] (by simp) ?_
  refine (awake_any w).mono ?_
  rintro e w1 ⟨rfl, hb⟩
  refine ⟨_, rfl, ?_⟩
  have B1 := Keep.mk hb
  clear hb
  simp only [Act.put, pqA, pqB, pqC]
  refine VlS (.bool false) ?_
  refine WL.nil (hK3 _ _ ?_)
  refine wp_cond_false rfl ?_
  refine wp_skip ?_
  refine hK2 _ _ ?_
  refine wp_seq_k fun K4 hK4 => rgn ?_
  refine VlS (.slice sa L.length sc) ?_
  refine WL.callF (by kernel_rfl) 10 _ _ rfl Tryz.in10 #[.slice sa L.length sc] (by simp [Act.eval]) ?_
  refine (of_any _ L w1 (HS.out.below B1.out) (HI.out.below B1.out) HL.out).mono ?_
  rintro e w2 (⟨p, H, S, -, hP⟩ | ⟨-, i, hi, -, hne, -⟩ | ⟨hb, -, i, hi, -, hne, rfl⟩)
  ·exact absurd (fun i hi => hP.good.tg i (by rw [exs_len]; exact hi)) hbad
  ·exact absurd (hok i hi) hne
  refine ⟨_, rfl, ?_⟩
  obtain ⟨c, hc⟩ : ∃ c, Keep (tg1 (exs L) i = c) := ⟨_, ⟨rfl⟩⟩
  rw [hc.out]
  have hc0 : ¬ c = 0 := by rw [← hc.out]; exact hne
  simp only [Act.put, pqA, pqB, pqC]
  refine VlS (.tuple #[.pointer none, .int .i64 c, .int .i64 (i : Int)]) ?_
  refine VlS (.pointer none) ?_
  refine VlS (.int .i64 c) ?_
  refine VlS (.int .i64 (i : Int)) ?_
  refine VlS (.pointer none) ?_
  refine VlS (.int .i64 c) ?_
  refine VlS (.int .i64 (i : Int)) ?_
  refine WL.nil (hK4 _ _ ?_)
  refine wp_seq_k fun K5 hK5 => ?_
  refine wp_seq_k fun K6 hK6 => rgn ?_
  refine VlS (.int .i64 c) ?_
  refine VlS (.bool true) ?_
  refine VlS (.bool true) ?_
  refine SkS ?_
  refine SkS ?_
  refine VlS (.bool true) ?_
  refine WL.nil (hK6 _ _ ?_)
  refine wp_cond_true rfl ?_
  refine wp_seq_k fun K7 hK7 => rgn ?_
  refine VlS (.int .i64 c) ?_
  refine VlS (.bool true) ?_
  refine VlS (.bool true) ?_
  refine VlS (.pointer none) ?_
  refine VlS (.bool true) ?_
  refine VlS (.bool true) ?_
  refine VlS (.bool true) ?_
  refine WL.nil (hK7 _ _ ?_)
  refine wp_ret ?_
  go_ret
  exact ⟨rfl, belowC B1.out hb⟩
 ·exact orders_good v0 L v1 ns w hs hi hn hL hN ⟨fun i hi => hok i (by rwa [exs_len] at hi), fun i hi => hok2 i (by rwa [exs_len] at hi)⟩
end Go.Proofs.YthlohkgdmfkpeaaGreat
