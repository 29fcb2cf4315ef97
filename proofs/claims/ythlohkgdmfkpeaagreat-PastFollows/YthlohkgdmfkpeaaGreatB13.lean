import Derived.Test.YthlohkgdmfkpeaaGreatB12
import Derived.Test.YthlohkgdmfkpeaaGreatB11
import Derived.RangeFuncNested
import Derived.RangeFuncBound
import Derived.RangeFuncCalls
import Derived.RangeFuncLeaves
import Derived.RangeFuncWrites
import Derived.OrdersIn
import Derived.TacticsIn
import Derived.Laws.CopyRow
namespace Go.Proofs.YthlohkgdmfkpeaaGreat
open Go.RowKit
set_option linter.unusedSimpArgs false
set_option linter.unusedVariables false

theorem Tryz.in18 (w : World) (vs : Array Value) : (callFunc 18 vs).run Tryz.prog w = .ok (.enter 18 vs) w := by kernel_rfl
theorem Tryz.in48 (w : World) (vs : Array Value) : (callFunc 48 vs).run Tryz.prog w = .ok (.enter 48 vs) w := by kernel_rfl
theorem Tryz.in19 (w : World) (vs : Array Value) : (callFunc 19 vs).run Tryz.prog w = .ok (.enter 19 vs) w := by kernel_rfl
theorem Tryz.in13 (w : World) (vs : Array Value) : (callFunc 13 vs).run Tryz.prog w = .ok (.enter 13 vs) w := by kernel_rfl
theorem Tryz.in26 (w : World) (vs : Array Value) : (callFunc 26 vs).run Tryz.prog w = .ok (.enter 26 vs) w := by kernel_rfl
theorem results_cell_row2 {P : Program} {fn : Func} {p u : Tmp} {ty : TypeId} (h : fn.results = #[.cell p ty, .tmp u]) (tmps : Array Value) (w : World) (g : Nat) (t : TypeId) (cs : Array Value) (fr : Nat × Nat) (d : TypeDesc) (y : Value)
  (hp : tmps.getD p undef = .pointer (some ⟨g, 0, none⟩)) (hy : tmps.getD u undef = y) (hg : w.heap[g]? = some (.cells cs t fr))
  (hu : P.underlying ty = some d) (hd : (match d with | .struct _ | .array _ _ => true | _ => false) = true) (hi : (P.info? ty).map (·.size) = some cs.size) :
  (results fn tmps).run P w = .ok (.tuple #[.agg cs, y]) w := by
 rw [results_cell_tmp h, hp, hy]
 simp [asAddr, Result.andThen, run_loadVar_row w g t ty cs fr d hg hu hd hi]
structure PastRd (w : World) (p : Nat) (H : List EP) (S : List (Nat × List Nat)) (v : Value) (mb ub : Nat) : Prop where
 p : Blk w p 83 (pA v mb ub H.length)
 sl : ESl w v H
 nd : EIn w H
 m : IxAt w mb (idsE (exs H))
 u : ∀ i (hi : i < S.length), w.cell? ⟨ub, i, none⟩ = some (sc S[i])
 s : ∀ i (hi : i < S.length), Blk w S[i].1 93 (wdV S[i].2).toArray ∧ Wds S[i].2 ∧ S[i].2.length ≤ 1000000
 len : S.length = H.length
 n : H.length ≤ 4096
 ok : ∀ q ∈ H, Nd.chkN q.1.N = 0
theorem PastAt.rd {w wr : World} {p : Nat} {L : List EX} {H : List EP} {S : List (Nat × List Nat)} (h : PastAt w wr p L H S) : ∃ v mb ub, PastRd wr p H S v mb ub := by
 obtain ⟨v, mb, ub, h1, h2⟩ := h.at'
 have hn : H.length ≤ 4096 := by rw [h.len]; exact h.good.len
 refine ⟨v, mb, ub, h1.p, h2.sl, fun q hq => (h2.ents q hq).nd, by have := h1.m; rwa [List.take_length] at this, fun i hi => h1.u.c i (sets_get S _ i hi), fun i hi => ⟨(h1.s S[i] (List.getElem_mem hi)).1, (h.und i hi).2.2, ?_⟩, h.sl, hn, fun q hq => h.good.chk (h.sub q.1 (List.mem_map.2 ⟨q, hq, rfl⟩))⟩
 rw [(h.und i hi).1, undF_len]
 have := (h.und i hi).2.1
 omega
set_option maxRecDepth 8000 in
theorem plen_any (H : List EP) (S : List (Nat × List Nat)) (v : Value) (p mb ub : Nat) (w : World) (hR : PastRd w p H S v mb ub) : Calls Tryz.prog 18 #[.pointer (some ⟨p, 0, none⟩)] w fun e w' => e = .returned (.int .i64 (H.length : Int)) ∧ w' = w := by
 obtain ⟨sa, sc1, rfl⟩ := hR.sl.form
 have HR := Keep.mk hR
 clear hR
 have c0 : w.cell? ⟨p, 0, none⟩ = some (.slice sa H.length sc1) := HR.out.p.c 0 rfl
 go_enter Tryz.func18, Tryz.ntmps18
 refine wp_seq_k fun K1 hK1 => rgn ?_
 refine VlS (.int .i64 0) ?_
 refine WL.nil (hK1 _ _ ?_)
 refine wp_seq_k fun K2 hK2 => rgn ?_
 refine VlS (.pointer (some ⟨p, 0, none⟩)) ?_
 refine VlS (.pointer (some ⟨p, 0, none⟩)) ?_
 refine VlS (.pointer (some ⟨p, 0, none⟩)) ?_
 refine VlS (.slice sa H.length sc1) ?_
 refine VlS (.int .i64 (H.length : Int)) ?_
 refine VlS (.int .i64 (H.length : Int)) ?_
 refine WL.nil (hK2 _ _ ?_)
 refine wp_ret ?_
 go_ret
 exact ⟨rfl, rfl⟩
set_option maxRecDepth 8000 in
theorem is_yes (H : List EP) (S : List (Nat × List Nat)) (v : Value) (p mb ub : Nat) (w : World) (hR : PastRd w p H S v mb ub) (i : Int) (h0 : 0 ≤ i) (h1 : i < (H.length : Int)) : Calls Tryz.prog 48 #[.pointer (some ⟨p, 0, none⟩), .int .i64 i] w fun e w' => e = .returned (.bool true) ∧ w' = w := by
 ·go_enter Tryz.func48, Tryz.ntmps48
  refine wp_seq_k fun K1 hK1 => rgn ?_
  refine VbF ?_
  refine WL.nil (hK1 _ _ ?_)
  refine wp_seq_k fun K2 hK2 => rgn ?_
  refine VlS (.int .i64 i) ?_
  refine VbT ?_
  refine VbT ?_
  refine VlS (.int .i64 i) ?_
  refine VlS (.pointer (some ⟨p, 0, none⟩)) ?_
  refine WL.callF (by kernel_rfl) 18 _ _ rfl Tryz.in18 #[.pointer (some ⟨p, 0, none⟩)] (by simp [Act.eval]) ?_
  refine (plen_any H S v p mb ub w hR).mono ?_
  rintro e w1 ⟨rfl, rfl⟩
  refine ⟨_, rfl, ?_⟩
  simp only [Act.put, pqA, pqB, pqC]
  refine VbT ?_
  refine VbT ?_
  refine VbT ?_
  refine WL.nil (hK2 _ _ ?_)
  refine wp_ret ?_
  go_ret
  exact ⟨rfl, rfl⟩
theorem PastRd.below {w w' : World} {p : Nat} {H : List EP} {S : List (Nat × List Nat)} {v : Value} {mb ub : Nat} (h : PastRd w p H S v mb ub) (hb : Below w.heap.size w w') : PastRd w' p H S v mb ub :=
 { h with p := h.p.below hb h.p.lt, sl := h.sl.below hb, nd := h.nd.below hb, m := h.m.below hb, u := fun i hi => (Grown.below (S := fun _ => False) hb).cell (h.u i hi) fun h => h, s := fun i hi => ⟨(h.s i hi).1.below hb (h.s i hi).1.lt, (h.s i hi).2⟩ }
set_option maxRecDepth 8000 in
set_option maxHeartbeats 1000000 in
theorem entry_yes (H : List EP) (S : List (Nat × List Nat)) (v : Value) (p mb ub : Nat) (w : World) (hR : PastRd w p H S v mb ub) (i : Nat) (hi : i < H.length) : Calls Tryz.prog 19 #[.pointer (some ⟨p, 0, none⟩), .int .i64 (i : Int)] w fun e w' => ∃ p' q', e = .returned (.tuple #[.agg (entA H[i].1.id.f H[i].1.N.au H[i].1.N.ck p' q'), .int .i64 0]) ∧ FreshE w w' H[i].1 p' q' := by
 obtain ⟨sa, sc1, rfl⟩ := hR.sl.form
 have HR := Keep.mk hR
 clear hR
 obtain ⟨sb, so, hsa, -⟩ := esl_range HR.out.sl hi
 subst hsa
 have hi' : (i : Int) < (H.length : Int) := by omega
 have hi0 : (0 : Int) ≤ (i : Int) := by omega
 obtain ⟨ee, hee⟩ : ∃ a : Array Value, Keep (a = entA H[i].1.id.f H[i].1.N.au H[i].1.N.ck H[i].2.1 H[i].2.2) := ⟨_, ⟨rfl⟩⟩
 go_enter Tryz.func19, Tryz.ntmps19
 refine wp_seq_k fun K1 hK1 => rgn ?_
 refine WL.new (by kernel_rfl) 52 rfl (entA (fun _ => 0) 0 0 (.slice none 0 0) (.slice none 0 0)) Tryz.new52 ?_
 obtain ⟨w1, hwn⟩ : ∃ wx, Keep (wx = w.alloc (.cells (entA (fun _ => 0) 0 0 (.slice none 0 0) (.slice none 0 0)) 52)) := ⟨_, ⟨rfl⟩⟩
 rw [← hwn.out]
 have HZ : Keep (Blk w1 w.heap.size 52 (entA (fun _ => 0) 0 0 (.slice none 0 0) (.slice none 0 0))) := ⟨by rw [hwn.out]; exact Blk.new _ _ _⟩
 have LB : Keep (Below w.heap.size w w1) := ⟨by rw [hwn.out]; exact below_new _ _⟩
 clear hwn
 have HR1 := Keep.mk (HR.out.below LB.out)
 simp only [Act.put, pqA, pqB, pqC]
 refine VlS (.int .i64 0) ?_
 refine WL.nil (hK1 _ _ ?_)
 refine wp_seq_k fun K2 hK2 => ?_
 refine wp_seq_k fun K3 hK3 => rgn ?_
 refine VlS (.pointer (some ⟨p, 0, none⟩)) ?_
 refine VlS (.int .i64 (i : Int)) ?_
 refine WL.callF (by kernel_rfl) 48 _ _ rfl Tryz.in48 #[.pointer (some ⟨p, 0, none⟩), .int .i64 (i : Int)] (by simp [Act.eval]) ?_
 refine (is_yes H S _ p mb ub w1 HR1.out i (by omega) (by omega)).mono ?_
 rintro e w2 ⟨rfl, rfl⟩
 refine ⟨_, rfl, ?_⟩
 have c0 : w2.cell? ⟨p, 0, none⟩ = some (.slice (some ⟨sb, so, none⟩) H.length sc1) := HR1.out.p.c 0 rfl
 have HRg : Keep (w2.rangeAt sb (so + i * 36) ee.toList) := ⟨by rw [hee.out]; obtain ⟨sb', so', e, h⟩ := esl_range HR1.out.sl hi; injection e with e; injection e with e1 e2; subst e1 e2; exact h⟩
 have HN : Keep (Nd.NdAt w2 H[i].1.N H[i].2.1 H[i].2.2) := ⟨HR1.out.nd _ (List.getElem_mem hi)⟩
 simp only [Act.put, pqA, pqB, pqC]
 refine VbF ?_
 refine WL.nil (hK3 _ _ ?_)
 refine wp_cond_false rfl ?_
 refine wp_skip ?_
 refine hK2 _ _ ?_
 refine wp_seq_k fun K4 hK4 => rgn ?_
 refine VlS (.pointer (some ⟨p, 0, none⟩)) ?_
 refine VlS (.pointer (some ⟨p, 0, none⟩)) ?_
 refine VlS (.pointer (some ⟨p, 0, none⟩)) ?_
 refine VlS (.slice (some ⟨sb, so, none⟩) H.length sc1) ?_
 refine VlS (.int .i64 (i : Int)) ?_
 refine VlS (.pointer (some ⟨sb, so + i * 36, none⟩)) ?_
 refine WL.midA (by kernel_rfl) 52 (.tmp 16) rfl sb (so + i * 36) rfl ee _ HRg.out Tryz.underlying52 rfl (by rw [hee.out]; exact sizeE _ _ _ _ _) ?_
 simp only [Act.put, pqA, pqB, pqC]
 refine WL.callF (by kernel_rfl) 36 _ _ rfl Tryz.in36 #[.agg ee] (by simp [Act.eval]) ?_
 refine (show Calls Tryz.prog 36 #[.agg ee] w2 _ from (by have h := own_ent H[i].1 H[i].2.1 H[i].2.2 w2 HN.out (by have := (ck_ok (HR.out.ok _ (List.getElem_mem hi))).2.2; omega) (ops_ok (HR.out.ok _ (List.getElem_mem hi))); rw [← hee.out] at h; exact h)).mono ?_
 rintro e w3 ⟨p1, q1, rfl, hF⟩
 refine ⟨_, rfl, ?_⟩
 have HF := Keep.mk hF
 have HZ3 := Keep.mk (HZ.out.below hF.bel HZ.out.lt)
 have hsz : Keep (w.heap.size < w2.heap.size) := ⟨HZ.out.lt⟩
 clear hF
 obtain ⟨e1, he1⟩ : ∃ a : Array Value, Keep (a = entA H[i].1.id.f H[i].1.N.au H[i].1.N.ck p1 q1) := ⟨_, ⟨rfl⟩⟩
 rw [← he1.out]
 simp only [Act.put, pqA, pqB, pqC]
 refine WL.storeR (by kernel_rfl) 52 (.tmp 4) (.tmp 18) rfl w.heap.size e1 rfl rfl 52 _ HZ3.out (by rw [he1.out]; exact sizeE _ _ _ _ _) (by rw [he1.out, entA_size, entA_size]) (by rw [he1.out]; exact entA_one _ _ _ _ _ (by obtain ⟨a, c, e⟩ := HF.out.nd.ps.form; rw [e]; rfl) (by obtain ⟨a, c, e⟩ := HF.out.nd.ops.form; rw [e]; rfl)) ?_
 have HZ4 := Keep.mk (HZ3.out.setRow e1)
 have G4 : Keep (Grown w3 (w3.setRow w.heap.size e1) fun k => k = w.heap.size) := ⟨Grown.setRow _ _ _ fun _ => rfl⟩
 generalize w3.setRow w.heap.size e1 = w4 at *
 simp only [Act.put]
 refine VlS (.int .i64 0) ?_
 refine WL.nil (hK4 _ _ ?_)
 refine wp_ret ?_
 refine bodyPost_ret (v := .tuple #[.agg e1, .int .i64 0]) (results_cell_row2 Tryz.results19 _ _ w.heap.size 52 _ (0, 0) _ _ rfl rfl HZ4.out Tryz.underlying52 rfl (by rw [he1.out]; exact sizeE _ _ _ _ _)) rfl ?_
 refine ⟨p1, q1, by rw [he1.out], ?_⟩
 have hb3 : Below w.heap.size w w3 := belowC LB.out HF.out.bel
 have hb4 : Below w.heap.size w w4 := hb3.trans (G4.out.to_below (fun k hk e => by omega) hb3.size)
 exact (HF.out.early LB.out).grown G4.out (fun k hk e => by have := HF.out.newp k hk; have := hsz.out; omega) (fun k hk e => by have := HF.out.newq k hk; have := hsz.out; omega) hb4
def numV (l : List Hs) (h : Hs) : Int := if ixH l h < l.length then (ixH l h : Int) else -1
set_option maxRecDepth 8000 in
set_option maxHeartbeats 1000000 in
theorem number_any (H : List EP) (S : List (Nat × List Nat)) (v : Value) (p mb ub : Nat) (w : World) (hR : PastRd w p H S v mb ub) (h : Hs) : Calls Tryz.prog 13 #[.pointer (some ⟨p, 0, none⟩), .agg (bytesA 32 h.f)] w fun e w' => e = .returned (.int .i64 (numV (idsE (exs H)) h)) ∧ Below w.heap.size w w' := by
 have HR := Keep.mk hR
 clear hR
 by_cases hm : ixH (idsE (exs H)) h < (idsE (exs H)).length
 ·go_enter Tryz.func13, Tryz.ntmps13
  refine wp_seq_k fun K1 hK1 => rgn ?_
  refine WL.box (by kernel_rfl) 36 (.tmp 1) rfl (bytesA 32 h.f) rfl ?_
  obtain ⟨w1, hwn⟩ : ∃ wx, Keep (wx = w.alloc (.cells (bytesA 32 h.f) 36)) := ⟨_, ⟨rfl⟩⟩
  rw [← hwn.out]
  have HX : Keep (Blk w1 w.heap.size 36 (bytesA 32 h.f)) := ⟨by rw [hwn.out]; exact Blk.new _ _ _⟩
  have LB : Keep (Below w.heap.size w w1) := ⟨by rw [hwn.out]; exact below_new _ _⟩
  clear hwn
  have HR1 := Keep.mk (HR.out.below LB.out)
  simp only [Act.put, pqA, pqB, pqC]
  refine VlS (.int .i64 0) ?_
  refine WL.nil (hK1 _ _ ?_)
  refine wp_seq_k fun K2 hK2 => ?_
  refine wp_seq_k fun K3 hK3 => ?_
  have hS0 : Keep ((fun wz => wz.cell? ⟨p, 1, none⟩ = some (.map (some mb)) ∧ wz.rangeAt w.heap.size 0 (bytesA 32 h.f).toList ∧ (Instr.lookup 73 (.map (some mb)) (.agg (bytesA 32 h.f)) true).run Tryz.prog wz = .ok (.tuple #[.int .i64 (ixH (idsE (exs H)) h : Int), .bool true]) wz) w1.drew) := ⟨⟨HR1.out.p.drew.c 1 rfl, blk_range HX.out.drew, by have h := (lookI (HR1.out.m.below (Below.refl _ _).drew) h).1; rw [ixV, if_pos hm, decide_eq_true hm] at h; exact h⟩⟩
  refine wp_region_held_drew (S := fun wz => wz.cell? ⟨p, 1, none⟩ = some (.map (some mb)) ∧ wz.rangeAt w.heap.size 0 (bytesA 32 h.f).toList ∧ (Instr.lookup 73 (.map (some mb)) (.agg (bytesA 32 h.f)) true).run Tryz.prog wz = .ok (.tuple #[.int .i64 (ixH (idsE (exs H)) h : Int), .bool true]) wz) (by kernel_rfl) (hS0.out) (fun hHeld => ?_)
  refine tkS (i := 0) (oi := ⟨some 8, Op.move (Operand.tmp 0), 25, _, _, none⟩) (v := .pointer (some ⟨p, 0, none⟩)) rfl (Or.inl ⟨by rfl, fun w hS => by obtain ⟨hS1, hS2, hS3⟩ := hS; go_simp⟩) hHeld ?_
  refine tkS (i := 1) (oi := ⟨some 9, Op.nilCheck (Operand.tmp 8), 0, _, _, none⟩) (v := .pointer (some ⟨p, 0, none⟩)) rfl (Or.inl ⟨by rfl, fun w hS => by obtain ⟨hS1, hS2, hS3⟩ := hS; go_simp⟩) hHeld ?_
  refine tkS (i := 2) (oi := ⟨some 10, Op.fieldAddr 83 (Operand.tmp 9) 1, 0, _, _, none⟩) (v := .pointer (some ⟨p, 1, none⟩)) rfl (Or.inl ⟨by rfl, fun w hS => by obtain ⟨hS1, hS2, hS3⟩ := hS; go_simp⟩) hHeld ?_
  refine tkS (i := 3) (oi := ⟨some 11, Op.load 73 (Operand.tmp 10), 73, _, _, none⟩) (v := .map (some mb)) rfl (Or.inl ⟨by rfl, fun w hS => by obtain ⟨hS1, hS2, hS3⟩ := hS; go_simp⟩) hHeld ?_
  refine tkS (i := 4) (oi := ⟨some 12, Op.load 36 (Operand.tmp 3), 36, _, _, none⟩) (v := .agg (bytesA 32 h.f)) rfl (yieldsIf_ld (by rfl) (Operand.tmp 3) 36 rfl w.heap.size 0 rfl (bytesA 32 h.f) _ Tryz.underlying36 rfl (size36E _) fun w hS => hS.2.1) hHeld ?_
  refine tkS (i := 5) (oi := ⟨some 13, Op.lookup 73 (Operand.tmp 11) (Operand.tmp 12) true, 94, _, _, none⟩) (v := .tuple #[.int .i64 (ixH (idsE (exs H)) h : Int), .bool true]) rfl (yieldsIf_lookI (by rfl) (Operand.tmp 11) (Operand.tmp 12) true rfl _ _ rfl rfl _ fun w hS => hS.2.2) hHeld ?_
  refine tkS (i := 6) (oi := ⟨some 7, Op.move (Operand.tmp 13), 94, _, _, none⟩) (v := .tuple #[.int .i64 (ixH (idsE (exs H)) h : Int), .bool true]) rfl (Or.inl ⟨by rfl, fun w hS => by obtain ⟨hS1, hS2, hS3⟩ := hS; go_simp⟩) hHeld ?_
  refine tkS (i := 7) (oi := ⟨some 14, Op.extract (Operand.tmp 7) 0, 3, _, _, none⟩) (v := .int .i64 (ixH (idsE (exs H)) h : Int)) rfl (Or.inl ⟨by rfl, fun w hS => by obtain ⟨hS1, hS2, hS3⟩ := hS; go_simp⟩) hHeld ?_
  refine tkS (i := 8) (oi := ⟨some 15, Op.extract (Operand.tmp 7) 1, 4, _, _, none⟩) (v := .bool true) rfl (Or.inl ⟨by rfl, fun w hS => by obtain ⟨hS1, hS2, hS3⟩ := hS; go_simp⟩) hHeld ?_
  refine tkS (i := 9) (oi := ⟨some 5, Op.assign (Operand.tmp 14), 3, _, _, none⟩) (v := .int .i64 (ixH (idsE (exs H)) h : Int)) rfl (Or.inl ⟨by rfl, fun w hS => by obtain ⟨hS1, hS2, hS3⟩ := hS; go_simp⟩) hHeld ?_
  refine tkS (i := 10) (oi := ⟨some 6, Op.assign (Operand.tmp 15), 4, _, _, none⟩) (v := .bool true) rfl (Or.inl ⟨by rfl, fun w hS => by obtain ⟨hS1, hS2, hS3⟩ := hS; go_simp⟩) hHeld ?_
  refine wpAnyH_done (by kernel_rfl) ?_ _
  refine hK3 _ _ ?_
  refine wp_seq_k fun K4 hK4 => rgn ?_
  refine VbT ?_
  refine WL.nil (hK4 _ _ ?_)
  refine wp_cond_true rfl ?_
  refine wp_seq_k fun K5 hK5 => rgn ?_
  refine VlS (.int .i64 (ixH (idsE (exs H)) h : Int)) ?_
  refine VlS (.int .i64 (ixH (idsE (exs H)) h : Int)) ?_
  refine WL.nil (hK5 _ _ ?_)
  refine wp_ret ?_
  go_ret
  exact ⟨by rw [numV, if_pos hm]; rfl, (belowC LB.out (Below.refl _ _).drew)⟩
 ·go_enter Tryz.func13, Tryz.ntmps13
  refine wp_seq_k fun K1 hK1 => rgn ?_
  refine WL.box (by kernel_rfl) 36 (.tmp 1) rfl (bytesA 32 h.f) rfl ?_
  obtain ⟨w1, hwn⟩ : ∃ wx, Keep (wx = w.alloc (.cells (bytesA 32 h.f) 36)) := ⟨_, ⟨rfl⟩⟩
  rw [← hwn.out]
  have HX : Keep (Blk w1 w.heap.size 36 (bytesA 32 h.f)) := ⟨by rw [hwn.out]; exact Blk.new _ _ _⟩
  have LB : Keep (Below w.heap.size w w1) := ⟨by rw [hwn.out]; exact below_new _ _⟩
  clear hwn
  have HR1 := Keep.mk (HR.out.below LB.out)
  simp only [Act.put, pqA, pqB, pqC]
  refine VlS (.int .i64 0) ?_
  refine WL.nil (hK1 _ _ ?_)
  refine wp_seq_k fun K2 hK2 => ?_
  refine wp_seq_k fun K3 hK3 => ?_
  have hS0 : Keep ((fun wz => wz.cell? ⟨p, 1, none⟩ = some (.map (some mb)) ∧ wz.rangeAt w.heap.size 0 (bytesA 32 h.f).toList ∧ (Instr.lookup 73 (.map (some mb)) (.agg (bytesA 32 h.f)) true).run Tryz.prog wz = .ok (.tuple #[.int .i64 ((0 : Nat) : Int), .bool false]) wz) w1.drew) := ⟨⟨HR1.out.p.drew.c 1 rfl, blk_range HX.out.drew, by have h := (lookI (HR1.out.m.below (Below.refl _ _).drew) h).1; rw [ixV, if_neg hm, decide_eq_false hm] at h; exact h⟩⟩
  refine wp_region_held_drew (S := fun wz => wz.cell? ⟨p, 1, none⟩ = some (.map (some mb)) ∧ wz.rangeAt w.heap.size 0 (bytesA 32 h.f).toList ∧ (Instr.lookup 73 (.map (some mb)) (.agg (bytesA 32 h.f)) true).run Tryz.prog wz = .ok (.tuple #[.int .i64 ((0 : Nat) : Int), .bool false]) wz) (by kernel_rfl) (hS0.out) (fun hHeld => ?_)
  refine tkS (i := 0) (oi := ⟨some 8, Op.move (Operand.tmp 0), 25, _, _, none⟩) (v := .pointer (some ⟨p, 0, none⟩)) rfl (Or.inl ⟨by rfl, fun w hS => by obtain ⟨hS1, hS2, hS3⟩ := hS; go_simp⟩) hHeld ?_
  refine tkS (i := 1) (oi := ⟨some 9, Op.nilCheck (Operand.tmp 8), 0, _, _, none⟩) (v := .pointer (some ⟨p, 0, none⟩)) rfl (Or.inl ⟨by rfl, fun w hS => by obtain ⟨hS1, hS2, hS3⟩ := hS; go_simp⟩) hHeld ?_
  refine tkS (i := 2) (oi := ⟨some 10, Op.fieldAddr 83 (Operand.tmp 9) 1, 0, _, _, none⟩) (v := .pointer (some ⟨p, 1, none⟩)) rfl (Or.inl ⟨by rfl, fun w hS => by obtain ⟨hS1, hS2, hS3⟩ := hS; go_simp⟩) hHeld ?_
  refine tkS (i := 3) (oi := ⟨some 11, Op.load 73 (Operand.tmp 10), 73, _, _, none⟩) (v := .map (some mb)) rfl (Or.inl ⟨by rfl, fun w hS => by obtain ⟨hS1, hS2, hS3⟩ := hS; go_simp⟩) hHeld ?_
  refine tkS (i := 4) (oi := ⟨some 12, Op.load 36 (Operand.tmp 3), 36, _, _, none⟩) (v := .agg (bytesA 32 h.f)) rfl (yieldsIf_ld (by rfl) (Operand.tmp 3) 36 rfl w.heap.size 0 rfl (bytesA 32 h.f) _ Tryz.underlying36 rfl (size36E _) fun w hS => hS.2.1) hHeld ?_
  refine tkS (i := 5) (oi := ⟨some 13, Op.lookup 73 (Operand.tmp 11) (Operand.tmp 12) true, 94, _, _, none⟩) (v := .tuple #[.int .i64 ((0 : Nat) : Int), .bool false]) rfl (yieldsIf_lookI (by rfl) (Operand.tmp 11) (Operand.tmp 12) true rfl _ _ rfl rfl _ fun w hS => hS.2.2) hHeld ?_
  refine tkS (i := 6) (oi := ⟨some 7, Op.move (Operand.tmp 13), 94, _, _, none⟩) (v := .tuple #[.int .i64 ((0 : Nat) : Int), .bool false]) rfl (Or.inl ⟨by rfl, fun w hS => by obtain ⟨hS1, hS2, hS3⟩ := hS; go_simp⟩) hHeld ?_
  refine tkS (i := 7) (oi := ⟨some 14, Op.extract (Operand.tmp 7) 0, 3, _, _, none⟩) (v := .int .i64 ((0 : Nat) : Int)) rfl (Or.inl ⟨by rfl, fun w hS => by obtain ⟨hS1, hS2, hS3⟩ := hS; go_simp⟩) hHeld ?_
  refine tkS (i := 8) (oi := ⟨some 15, Op.extract (Operand.tmp 7) 1, 4, _, _, none⟩) (v := .bool false) rfl (Or.inl ⟨by rfl, fun w hS => by obtain ⟨hS1, hS2, hS3⟩ := hS; go_simp⟩) hHeld ?_
  refine tkS (i := 9) (oi := ⟨some 5, Op.assign (Operand.tmp 14), 3, _, _, none⟩) (v := .int .i64 ((0 : Nat) : Int)) rfl (Or.inl ⟨by rfl, fun w hS => by obtain ⟨hS1, hS2, hS3⟩ := hS; go_simp⟩) hHeld ?_
  refine tkS (i := 10) (oi := ⟨some 6, Op.assign (Operand.tmp 15), 4, _, _, none⟩) (v := .bool false) rfl (Or.inl ⟨by rfl, fun w hS => by obtain ⟨hS1, hS2, hS3⟩ := hS; go_simp⟩) hHeld ?_
  refine wpAnyH_done (by kernel_rfl) ?_ _
  refine hK3 _ _ ?_
  refine wp_seq_k fun K4 hK4 => rgn ?_
  refine VbF ?_
  refine WL.nil (hK4 _ _ ?_)
  refine wp_cond_false rfl ?_
  refine wp_skip ?_
  refine hK2 _ _ ?_
  refine wp_seq_k fun K5 hK5 => rgn ?_
  refine VlS (.int .i64 (-1)) ?_
  refine WL.nil (hK5 _ _ ?_)
  refine wp_ret ?_
  go_ret
  exact ⟨by rw [numV, if_neg hm]; rfl, (belowC LB.out (Below.refl _ _).drew)⟩
set_option maxRecDepth 8000 in
theorem sees_eq (H : List EP) (S : List (Nat × List Nat)) (v : Value) (p mb ub : Nat) (w : World) (hR : PastRd w p H S v mb ub) (i j : Nat) (hi : 0 ≤ (i : Int) ∧ (i : Int) < (H.length : Int)) (hj : 0 ≤ (j : Int) ∧ (j : Int) < (H.length : Int)) (hij : (i : Int) = (j : Int)) : Calls Tryz.prog 26 #[.pointer (some ⟨p, 0, none⟩), .int .i64 (i : Int), .int .i64 (j : Int)] w fun e w' => e = .returned (.bool false) ∧ w' = w := by
 have HR := Keep.mk hR
 clear hR
 go_enter Tryz.func26, Tryz.ntmps26
 refine wp_seq_k fun K1 hK1 => rgn ?_
 refine VbF ?_
 refine WL.nil (hK1 _ _ ?_)
 refine wp_seq_k fun K2 hK2 => rgn ?_
 refine VlS (.pointer (some ⟨p, 0, none⟩)) ?_
 refine VlS (.int .i64 (i : Int)) ?_
 refine WL.callF (by kernel_rfl) 48 _ _ rfl Tryz.in48 #[.pointer (some ⟨p, 0, none⟩), .int .i64 (i : Int)] (by simp [Act.eval]) ?_
 refine (is_yes H S v p mb ub w HR.out _ hi.1 hi.2).mono ?_
 rintro e w1 ⟨rfl, hw1⟩
 refine ⟨_, rfl, ?_⟩
 rw [hw1]
 clear hw1
 simp only [Act.put, pqA, pqB, pqC]
 refine VbT ?_
 refine VlS (.pointer (some ⟨p, 0, none⟩)) ?_
 refine VlS (.int .i64 (j : Int)) ?_
 refine WL.callF (by kernel_rfl) 48 _ _ rfl Tryz.in48 #[.pointer (some ⟨p, 0, none⟩), .int .i64 (j : Int)] (by simp [Act.eval]) ?_
 refine (is_yes H S v p mb ub w HR.out _ hj.1 hj.2).mono ?_
 rintro e w1 ⟨rfl, hw1⟩
 refine ⟨_, rfl, ?_⟩
 rw [hw1]
 clear hw1
 simp only [Act.put, pqA, pqB, pqC]
 refine VbT ?_
 refine VbT ?_
 refine VlS (.int .i64 (i : Int)) ?_
 refine VlS (.int .i64 (j : Int)) ?_
 refine VbF ?_
 refine VbF ?_
 refine VbF ?_
 refine SkS ?_
 refine SkS ?_
 refine SkS ?_
 refine SkS ?_
 refine SkS ?_
 refine SkS ?_
 refine SkS ?_
 refine SkS ?_
 refine SkS ?_
 refine VbF ?_
 refine VbF ?_
 refine WL.nil (hK2 _ _ ?_)
 refine wp_ret ?_
 go_ret
 exact ⟨rfl, rfl⟩
set_option maxRecDepth 8000 in
theorem sees_yes (H : List EP) (S : List (Nat × List Nat)) (v : Value) (p mb ub : Nat) (w : World) (hR : PastRd w p H S v mb ub) (i j : Nat) (hi : 0 ≤ (i : Int) ∧ (i : Int) < (H.length : Int)) (hj : 0 ≤ (j : Int) ∧ (j : Int) < (H.length : Int)) (hjs : j < S.length) (hij : ¬ (i : Int) = (j : Int)) : Calls Tryz.prog 26 #[.pointer (some ⟨p, 0, none⟩), .int .i64 (i : Int), .int .i64 (j : Int)] w fun e w' => e = .returned (.bool (hasW S[j].2 i)) ∧ w' = w := by
 have HR := Keep.mk hR
 clear hR
 have c2 : w.cell? ⟨p, 2, none⟩ = some (.slice (some ⟨ub, 0, none⟩) H.length H.length) := HR.out.p.c 2 rfl
 have cj : w.cell? ⟨ub, j, none⟩ = some (.slice (some ⟨S[j].1, 0, none⟩) S[j].2.length S[j].2.length) := HR.out.u j hjs
 have hj1 := hj.1
 have hj2 := hj.2
 go_enter Tryz.func26, Tryz.ntmps26
 refine wp_seq_k fun K1 hK1 => rgn ?_
 refine VbF ?_
 refine WL.nil (hK1 _ _ ?_)
 refine wp_seq_k fun K2 hK2 => rgn ?_
 refine VlS (.pointer (some ⟨p, 0, none⟩)) ?_
 refine VlS (.int .i64 (i : Int)) ?_
 refine WL.callF (by kernel_rfl) 48 _ _ rfl Tryz.in48 #[.pointer (some ⟨p, 0, none⟩), .int .i64 (i : Int)] (by simp [Act.eval]) ?_
 refine (is_yes H S v p mb ub w HR.out _ hi.1 hi.2).mono ?_
 rintro e w1 ⟨rfl, hw1⟩
 refine ⟨_, rfl, ?_⟩
 rw [hw1]
 clear hw1
 simp only [Act.put, pqA, pqB, pqC]
 refine VbT ?_
 refine VlS (.pointer (some ⟨p, 0, none⟩)) ?_
 refine VlS (.int .i64 (j : Int)) ?_
 refine WL.callF (by kernel_rfl) 48 _ _ rfl Tryz.in48 #[.pointer (some ⟨p, 0, none⟩), .int .i64 (j : Int)] (by simp [Act.eval]) ?_
 refine (is_yes H S v p mb ub w HR.out _ hj.1 hj.2).mono ?_
 rintro e w1 ⟨rfl, hw1⟩
 refine ⟨_, rfl, ?_⟩
 rw [hw1]
 clear hw1
 simp only [Act.put, pqA, pqB, pqC]
 refine VbT ?_
 refine VbT ?_
 refine VlS (.int .i64 (i : Int)) ?_
 refine VlS (.int .i64 (j : Int)) ?_
 refine VbT ?_
 refine VbT ?_
 refine VbT ?_
 refine VlS (.pointer (some ⟨p, 0, none⟩)) ?_
 refine VlS (.pointer (some ⟨p, 0, none⟩)) ?_
 refine VlS (.pointer (some ⟨p, 2, none⟩)) ?_
 refine VlS (.slice (some ⟨ub, 0, none⟩) H.length H.length) ?_
 refine VlS (.int .i64 (j : Int)) ?_
 refine VlS (.pointer (some ⟨ub, j, none⟩)) ?_
 refine VlS (.slice (some ⟨S[j].1, 0, none⟩) S[j].2.length S[j].2.length) ?_
 refine VlS (.int .i64 (i : Int)) ?_
 refine WL.callF (by kernel_rfl) 54 _ _ rfl Tryz.in54 #[.slice (some ⟨S[j].1, 0, none⟩) S[j].2.length S[j].2.length, .int .i64 (i : Int)] (by simp [Act.eval]) ?_
 refine (has_set S[j].1 i S[j].2 w (HR.out.s j hjs).1 (by have := HR.out.n; omega) (HR.out.s j hjs).2.2 (HR.out.s j hjs).2.1).mono ?_
 rintro e w1 ⟨rfl, hw1⟩
 refine ⟨_, rfl, ?_⟩
 rw [hw1]
 clear hw1
 simp only [Act.put, pqA, pqB, pqC]
 refine VlS (.bool (hasW S[j].2 i)) ?_
 refine VlS (.bool (hasW S[j].2 i)) ?_
 refine WL.nil (hK2 _ _ ?_)
 refine wp_ret ?_
 go_ret
 exact ⟨rfl, rfl⟩
def noDef (L : List Oper) : Bool := L.all fun o => match o.op with
 | .defer _ => false
 | _ => true
theorem noDef_mem {L : List Oper} (h : noDef L = true) : ∀ o ∈ L, ∀ c, o.op ≠ .defer c := fun o ho c e => by
 have := List.all_eq_true.1 h o ho
 rw [e] at this
 cases this
theorem op_in {F : Fence} (hF : F = Fence.wide ∨ ∃ l, F = Fence.wide.inRound l) {n : Nat} {P : Program} {o : Oper} {a : Act} {w : World} {K K' : Act → World → Prop} {Q : Exit → Act → World → Prop} (hd : ∀ c, o.op ≠ .defer c) (hK : ∀ a w, K a w → K' a w) (h : o.wp P a w K Q) : o.wpIn F n P a w K' Q := by
 have hs : Oper.semAt F.round a.eval o = execOp a.eval o := by
  rcases hF with rfl | ⟨l, rfl⟩
  ·rfl
  ·exact Oper.semAt_some l a.eval o hd
 have hfn : ∀ f, F.fn f := by rcases hF with rfl | ⟨l, rfl⟩ <;> exact fun _ => trivial
 have hdp : ¬ (F.depth.isSome = true) := by rcases hF with rfl | ⟨l, rfl⟩ <;> (intro h; cases h)
 have hc : ∀ {f : FuncId} {args : Array Value} {w : World} {R : Ending → World → Prop}, Calls P f args w R → CallsIn F (n - 1) P f args w R := fun h => by
  rcases hF with rfl | ⟨l, rfl⟩
  ·exact callsIn_wide.2 h
  ·exact CallsIn.inRound l (callsIn_wide.2 h)
 have hr : ∀ {row : String} {args : Array Value} {w : World} {R : Value → World → Prop}, Rows P row args w R → RowsIn F (n - 1) P row args w R := fun h c cs _ => by
  obtain ⟨v, w', r, s⟩ := h c cs
  refine ⟨v, w', r, ?_⟩
  rcases hF with rfl | ⟨l, rfl⟩
  ·exact stepsIn_wide.2 s
  ·exact (stepsIn_wide (P := P)).2 s
 refine ⟨fun f _ => hfn f, ?_⟩
 rw [hs]
 unfold Oper.wp at h
 generalize (execOp a.eval o).run P w = r at h
 cases r
 case ok nx w' =>
  cases nx
  case value v => exact hK _ _ h
  case skip => exact hK _ _ h
  case defer d => exact hK _ _ h
  case enter f args =>
   refine ⟨fun h => absurd h hdp, hc ((show Calls P f args w' _ from h).mono fun e w'' => ?_)⟩
   cases e
   case returned v => exact fun h => hK _ _ h
   case panicked c => exact fun h => h
   case outgrown => exact fun h => h
  case row rw' args => exact ⟨fun h => absurd h hdp, hr ((show Rows P rw' args w' _ from h).mono fun v w'' h => hK _ _ h)⟩
  all_goals exact False.elim h
 case halt hh w' =>
  cases hh
  case panic v => exact h
  all_goals exact False.elim h
 all_goals exact False.elim h
theorem list_in {F : Fence} (hF : F = Fence.wide ∨ ∃ l, F = Fence.wide.inRound l) {n : Nat} {P : Program} {ops : Array Oper} {Q : Exit → Act → World → Prop} (hQ : ¬ LetsOut Q) : ∀ (L : List Oper) (_ : ∀ o ∈ L, ∀ c, o.op ≠ .defer c) (a : Act) (w : World), wpList P ops Q L a w → wpListIn F n P ops Q L a w
 | [], _, _, _, h => h
 | o :: rest, hd, a, w, h => by
  unfold wpList at h
  unfold wpListIn
  by_cases hw : Region.wanted o (yielded ops a.tmps) = true
  ·rw [if_pos hw] at h ⊢
   rcases h with h | ⟨_, h⟩
   ·exact op_in hF (hd o List.mem_cons_self) (fun a w h => list_in hF hQ rest (fun o ho => hd o (List.mem_cons_of_mem _ ho)) a w h) h
   ·exact absurd h hQ
  ·rw [if_neg hw] at h ⊢
   exact ⟨fun f _ => (by rcases hF with rfl | ⟨l, rfl⟩ <;> trivial), list_in hF hQ rest (fun o ho => hd o (List.mem_cons_of_mem _ ho)) _ w h⟩
theorem region_in {l n : Nat} {P : Program} {id : Nat} {ops : Array Oper} {Q : Exit → Act → World → Prop} {a : Act} {w : World} (hd : noDef ops.toList = true) (hQ : ¬ LetsOut Q) (h : wpList P ops Q ops.toList a w) : (Code.region id ops false).wpIn (Fence.wide.inRound l) n P Q a w :=
 wpIn_region_list (list_in (.inr ⟨l, rfl⟩) hQ _ (noDef_mem hd) a w h)
theorem any_in {F : Fence} (hF : F = Fence.wide ∨ ∃ l, F = Fence.wide.inRound l) {n : Nat} {P : Program} {md : Region.Mode} {ops : Array Oper} {Q : Exit → Act → World → Prop} {S : World → Prop} (hQ : ¬ LetsOut Q) (hd : noDef ops.toList = true) : ∀ (fuel : Nat) (listed : Array Bool) (a : Act) (w : World), wpAnyH P md ops Q S fuel listed a w → wpAnyIn F n P md ops Q fuel listed a w
 | 0, _, _, _, h => h
 | fuel + 1, listed, a, w, h => by
  refine ⟨h.1, fun i hi => ?_⟩
  have h2 := h.2 i hi
  unfold wpOp at h2
  unfold wpOpIn
  cases ho : ops[i]? with
  | none => rw [ho] at h2; exact any_in hF hQ hd fuel _ a w h2.2
  | some o =>
   rw [ho] at h2
   simp only at h2 ⊢
   have hm : o ∈ ops.toList := by
    rw [← Array.getElem?_toList] at ho
    exact List.mem_of_getElem? ho
   by_cases hw : Region.wanted o (yielded ops a.tmps) = true
   ·rw [if_pos hw] at h2 ⊢
    rcases h2 with h2 | ⟨_, h2⟩
    ·exact op_in hF (noDef_mem hd o hm) (fun a w h => any_in hF hQ hd fuel _ a w h.2) h2
    ·exact absurd h2 hQ
   ·rw [if_neg hw] at h2 ⊢
    exact ⟨fun f _ => (by rcases hF with rfl | ⟨l, rfl⟩ <;> trivial), any_in hF hQ hd fuel _ _ w h2.2⟩
theorem region_in_held {l n : Nat} {P : Program} {id : Nat} {ops : Array Oper} {Q : Exit → Act → World → Prop} {a : Act} {w : World} {S : World → Prop} (hm : P.follows .mixedOrders = true) (hd : noDef ops.toList = true) (hQ : ¬ LetsOut Q) (hS : S w.drew) (h : S w.drew → wpAnyH P .any ops Q S ops.size (Array.replicate ops.size false) a w.drew) : (Code.region id ops true).wpIn (Fence.wide.inRound l) n P Q a w :=
 wpIn_region_any hm (any_in (.inr ⟨l, rfl⟩) hQ hd _ _ _ _ (h hS))
theorem Tryz.in70 (w : World) (vs : Array Value) : (callFunc 70 vs).run Tryz.prog w = .ok (.enter 70 vs) w := by kernel_rfl
structure WI (n : Nat) (P : Program) (ops : Array Oper) (Q : Exit → Act → World → Prop) (l : List Oper) (a : Act) (w : World) : Prop where
 out : wpListIn Fence.wide n P ops Q l a w
section
variable {n : Nat} {P : Program} {ops : Array Oper} {rest : List Oper} {o : Oper} {a : Act} {w : World} {Q : Exit → Act → World → Prop}
theorem WI.nil (h : Q .normal a w) : WI n P ops Q [] a w := ⟨h⟩
theorem WI.op (hw : Region.wanted o (yielded ops a.tmps) = true) (hd : ∀ c, o.op ≠ .defer c) (h : ∀ K : Act → World → Prop, (∀ a w, WI n P ops Q rest a w → K a w) → o.wp P a w K Q) : WI n P ops Q (o :: rest) a w :=
 ⟨by
  unfold wpListIn
  rw [if_pos hw]
  exact op_in (.inl rfl) hd (fun a w (h : WI n P ops Q rest a w) => h.out) (h _ fun a w h => h)⟩
theorem WI.val (hw : Region.wanted o (yielded ops a.tmps) = true) (hd : ∀ c, o.op ≠ .defer c) (v : Value) (hrun : (execOp a.eval o).run P w = .ok (.value v) w) (h : WI n P ops Q rest (a.put o.dst v) w) : WI n P ops Q (o :: rest) a w :=
 WI.op hw hd fun K hK => by unfold Oper.wp; rw [hrun, Oper.upon_value]; exact hK _ _ h
theorem WI.midA (hw : Region.wanted o (yielded ops a.tmps) = true) (ty : TypeId) (x : Operand) (ho : o.op = .load ty x)
  (b of : Nat) (hx : a.eval x = .pointer (some ⟨b, of, none⟩)) (cs : Array Value) (d : TypeDesc) (hc : w.rangeAt b of cs.toList)
  (hu : P.underlying ty = some d) (hd : d.isRow = true) (hi : (P.info? ty).map (·.size) = some cs.size)
  (h : WI n P ops Q rest (a.put o.dst (.agg cs)) w) : WI n P ops Q (o :: rest) a w :=
 WI.op hw (fun c e => by rw [ho] at e; cases e) fun K hK => wp_load_mid ty x ho b of hx cs.toList d hc hu hd (by rw [Array.length_toList]; exact hi) (hK _ _ (by rw [Array.toArray_toList]; exact h))
theorem WI.yield (hw : Region.wanted o (yielded ops a.tmps) = true) (l : Nat) (x : Operand) (args : Array Operand) (ts : Array TypeId) (ho : o.op = .call { callee := .value x, args := args, argTypes := ts }) (hx : a.eval x = .func (.yield l) #[] #[]) (vs : Array Value) (hvs : args.map a.eval = vs)
  {R : Ending → World → Prop} (hy : YieldAt Fence.wide (n - 1) P l vs w R) (h : ∀ e w', R e w' → ∃ v, e = .returned v ∧ WI n P ops Q rest (a.put o.dst v) w') : WI n P ops Q (o :: rest) a w :=
 ⟨by
  unfold wpListIn
  rw [if_pos hw]
  obtain ⟨fn, tmps, asg, bd, hr, hR⟩ := hy
  refine ⟨fun _ _ => trivial, ?_⟩
  have hrun : (execOp a.eval o).run P w = .ok (.round l fn tmps asg bd) w := by
   simp [execOp, ho, resolve, hx, hvs, invoke, Deferred.ofValue, hr]
  show o.uponIn Fence.wide n P a _ Q ((Oper.semAt none a.eval o).run P w)
  rw [Oper.semAt_none, hrun, Oper.uponIn_round]
  refine ⟨fun h => (by cases h), hR.mono fun e w' hq => ?_⟩
  obtain ⟨v, rfl, h2⟩ := h e w' hq
  exact h2.out⟩
end
set_option maxRecDepth 8000 in
theorem back_any (sa : Option Addr) (sn sc : Nat) (w : World) : Calls Tryz.prog 70 #[.slice sa sn sc] w fun e w' => e = .returned (.func (.func 84) #[] #[.pointer (some ⟨w.heap.size, 0, none⟩)]) ∧ w' = w.alloc (.cells #[.slice sa sn sc] 23) := by
 go_enter Tryz.func70, Tryz.ntmps70
 refine wp_seq_k fun K1 hK1 => rgn ?_
 refine WL.valW (by kernel_rfl) (.pointer (some ⟨w.heap.size, 0, none⟩)) (w.alloc (.cells #[.slice sa sn sc] 23)) (by go_simp) ?_
 simp only [Act.put, pqA, pqB, pqC]
 refine VlS (.nilFunc) ?_
 refine WL.nil (hK1 _ _ ?_)
 refine wp_seq_k fun K2 hK2 => rgn ?_
 refine VlS (.func (.func 84) #[] #[.pointer (some ⟨w.heap.size, 0, none⟩)]) ?_
 refine VlS (.func (.func 84) #[] #[.pointer (some ⟨w.heap.size, 0, none⟩)]) ?_
 refine WL.nil (hK2 _ _ ?_)
 refine wp_ret ?_
 go_ret
 exact ⟨rfl, rfl⟩
def encB (H : List EP) (i : Fin H.length) : Array Value := #[.int .i64 (i.val : Int), .agg (entA H[i.val].1.id.f H[i.val].1.N.au H[i.val].1.N.ck H[i.val].2.1 H[i.val].2.2)]
def KpB (n0 Bs : Nat) (W W' : World) : Prop := Below n0 W W' ∧ W'.heap[Bs]? = W.heap[Bs]?
theorem KpB.trans {n0 Bs : Nat} {A B C : World} (h : KpB n0 Bs A B) (k : KpB n0 Bs B C) : KpB n0 Bs A C := ⟨h.1.trans k.1, k.2.trans h.2⟩
theorem KpB.refl (n0 Bs : Nat) (A : World) : KpB n0 Bs A A := ⟨Below.refl _ _, rfl⟩
theorem rev_take (n t : Nat) (h : t < n) : (List.finRange n).reverse.take (t + 1) = (List.finRange n).reverse.take t ++ [⟨n - 1 - t, by omega⟩] := by
 rw [List.take_succ_eq_append_getElem (by simp; exact h)]
 congr 1
 simp [List.getElem_reverse]
set_option maxRecDepth 8000 in
set_option maxHeartbeats 2000000 in
theorem back_stops (n Bs n0 : Nat) (v : Value) (H : List EP) (w : World) (hn0 : n0 ≤ w.heap.size) (hBs : Bs < w.heap.size) (hc : w.cell? ⟨Bs, 0, none⟩ = some v) (hs : ESl w v H) (hb : ∀ k, v.ownBlock = some k → k < n0) (hL : H.length ≤ 4096) :
  SeqStopsK Fence.wide n Tryz.prog 84 #[.pointer (some ⟨Bs, 0, none⟩)] (encB H) (KpB n0 Bs) (fun xs => xs = (List.finRange H.length).reverse) (fun _ => True) H.length w := by
 intro l J Jx W hW _ _ hY h0
 obtain ⟨sa, sc, rfl⟩ := hs.form
 have HC : Keep (W.cell? ⟨Bs, 0, none⟩ = some (.slice sa H.length sc)) := ⟨(hW.cell (p := ⟨Bs, 0, none⟩) hBs).trans hc⟩
 have cB0 := HC.out
 have HS : Keep (ESl W (.slice sa H.length sc) H) := ⟨hs.below hW⟩
 have Hb := Keep.mk hb
 have hw0 : IntKind.i64.wrap ((H.length : Int) - 1) = (H.length : Int) - 1 - ((0 : Nat) : Int) := by rw [IntKind.wrap_i64]; omega
 clear hs hb hc hW
 refine callsIn_of_wp Tryz.func84 rfl trivial ?_
 refine wpIn_wide.2 ?_
 simp only [Tryz.ntmps84, List.size_toArray, List.length_cons, List.length_nil, Nat.reduceAdd, Nat.reduceSub, Array.replicate_succ, Array.replicate_zero, List.push_toArray, List.append_toArray, List.nil_append, List.cons_append]
 refine wp_seq_k fun K1 hK1 => rgn ?_
 refine VlS (.slice sa H.length sc) ?_
 refine VlS (.int .i64 (H.length : Int)) ?_
 refine VlS (.int .i64 ((H.length : Int) - 1 - ((0 : Nat) : Int))) ?_
 refine VlS (.int .i64 ((H.length : Int) - 1 - ((0 : Nat) : Int))) ?_
 refine WL.nil (hK1 _ _ ?_)
 refine wp_block ?_
 refine wp_loop (fun ac wr => ∃ (t : Nat) (u7 u8 u9 u10 u11 u12 u13 u14 u15 u16 u17 u18 : Value), ac = { tmps := #[.func (.yield l) #[] #[], .pointer (some ⟨Bs, 0, none⟩), undef, .int .i64 ((H.length : Int) - 1 - (t : Int)), .slice sa H.length sc, .int .i64 (H.length : Int), .int .i64 ((H.length : Int) - 1 - ((0 : Nat) : Int)), u7, u8, u9, u10, u11, u12, u13, u14, u15, u16, u17, u18], defers := [] } ∧ t ≤ H.length ∧ J ((List.finRange H.length).reverse.take t) wr ∧ KpB n0 Bs W wr) (fun a _ => (intOf (a.tmps.getD 3 undef) + 1).toNat) ⟨0, undef, undef, undef, undef, undef, undef, undef, undef, undef, undef, undef, undef, rfl, by omega, by rw [List.take_zero]; exact h0, KpB.refl _ _ _⟩ ?_
 rintro ac wr ⟨t, u7, u8, u9, u10, u11, u12, u13, u14, u15, u16, u17, u18, rfl, ht, hJ, hK0⟩
 have JJ := Keep.mk hJ
 have JK := Keep.mk hK0
 clear hJ hK0
 by_cases htl : t < H.length
 ·obtain ⟨k, hk⟩ : ∃ k : Nat, Keep (k = H.length - 1 - t) := ⟨_, ⟨rfl⟩⟩
  have hkl : k < H.length := by have := hk.out; omega
  have hki : (H.length : Int) - 1 - (t : Int) = (k : Int) := by have := hk.out; omega
  rw [hki]
  have hk0 : (0 : Int) ≤ (k : Int) := by omega
  have hkl' : (k : Int) < (H.length : Int) := by omega
  have hwk : IntKind.i64.wrap ((k : Int) - 1) = (H.length : Int) - 1 - ((t + 1 : Nat) : Int) := by rw [IntKind.wrap_i64]; have := hk.out; omega
  obtain ⟨sb, so, hsa, hrg⟩ := esl_range HS.out hkl
  subst hsa
  have HRg : Keep (wr.rangeAt sb (so + k * 36) (entA H[k].1.id.f H[k].1.N.au H[k].1.N.ck H[k].2.1 H[k].2.2).toList) := ⟨range_below hrg JK.out.1 (Hb.out sb rfl)⟩
  clear hrg
  have cB : wr.cell? ⟨Bs, 0, none⟩ = some (.slice (some ⟨sb, so, none⟩) H.length sc) := by have h := HC.out; unfold World.cell? at h ⊢; rw [JK.out.2]; exact h
  refine wp_seq_k fun K2 hK2 => ?_
  refine wp_seq_k fun K3 hK3 => rgn ?_
  refine VlS (.int .i64 ((k : Int))) ?_
  refine VbT ?_
  refine WL.nil (hK3 _ _ ?_)
  refine wp_cond_true rfl ?_
  refine wp_skip ?_
  refine hK2 _ _ ?_
  refine wp_seq_k fun K4 hK4 => ?_
  refine wp_block ?_
  refine wp_seq_k fun K5 hK5 => ?_
  refine (wpIn_wide (n := n)).1 ?_
  refine wpIn_region_list (WI.out ?_)
  refine WI.val (by kernel_rfl) (fun c e => by cases e) (.func (.yield l) #[] #[]) (by go_simp) ?_
  simp only [Act.put, pqA, pqB, pqC]
  refine WI.val (by kernel_rfl) (fun c e => by cases e) (.int .i64 (k : Int)) (by go_simp) ?_
  simp only [Act.put, pqA, pqB, pqC]
  refine WI.val (by kernel_rfl) (fun c e => by cases e) (.slice (some ⟨sb, so, none⟩) H.length sc) (by go_simp) ?_
  simp only [Act.put, pqA, pqB, pqC]
  refine WI.val (by kernel_rfl) (fun c e => by cases e) (.int .i64 (k : Int)) (by go_simp) ?_
  simp only [Act.put, pqA, pqB, pqC]
  refine WI.val (by kernel_rfl) (fun c e => by cases e) (.pointer (some ⟨sb, so + k * 36, none⟩)) (by go_simp) ?_
  simp only [Act.put, pqA, pqB, pqC]
  refine WI.midA (by kernel_rfl) 52 (.tmp 15) rfl sb (so + k * 36) rfl (entA H[k].1.id.f H[k].1.N.au H[k].1.N.ck H[k].2.1 H[k].2.2) _ HRg.out Tryz.underlying52 rfl (sizeE _ _ _ _ _) ?_
  simp only [Act.put, pqA, pqB, pqC]
  refine WI.yield (by kernel_rfl) l (.tmp 11) _ _ rfl rfl (encB H ⟨k, hkl⟩) (by simp [Act.eval, encB]) (hY _ ⟨k, hkl⟩ wr JJ.out (by rw [List.length_take, List.length_reverse, List.length_finRange]; omega)) ?_
  rintro e wz (⟨rfl, hJz, hKz⟩ | ⟨rfl, hJz⟩)
  ·refine ⟨_, rfl, ?_⟩
   simp only [Act.put, pqA, pqB, pqC]
   refine WI.val (by kernel_rfl) (fun c e => by cases e) (.bool false) (by go_simp) ?_
   simp only [Act.put, pqA, pqB, pqC]
   refine WI.nil ?_
   refine hK5 _ _ ?_
   refine wp_cond_false rfl ?_
   refine wp_skip ?_
   refine hK4 _ _ ?_
   refine rgn ?_
   refine VlS (.int .i64 ((k : Int))) ?_
   refine VlS (.int .i64 ((H.length : Int) - 1 - ((t + 1 : Nat) : Int))) ?_
   refine VlS (.int .i64 ((H.length : Int) - 1 - ((t + 1 : Nat) : Int))) ?_
   refine WL.nil ?_
   refine ⟨⟨t + 1, .int .i64 ((k : Int)), .bool true, .int .i64 ((k : Int)), .int .i64 ((H.length : Int) - 1 - ((t + 1 : Nat) : Int)), .func (.yield l) #[] #[], .int .i64 (k : Int), .slice (some ⟨sb, so, none⟩) H.length sc, .int .i64 (k : Int), .pointer (some ⟨sb, so + k * 36, none⟩), .agg (entA H[k].1.id.f H[k].1.N.au H[k].1.N.ck H[k].2.1 H[k].2.2), .bool true, .bool false, rfl, by omega, ?_, JK.out.trans hKz⟩, by simp [intOf]; omega⟩
   rw [rev_take _ _ htl]
   have he : (⟨H.length - 1 - t, by omega⟩ : Fin H.length) = ⟨k, hkl⟩ := Fin.ext hk.out.symm
   rw [he]
   exact hJz
  ·refine ⟨_, rfl, ?_⟩
   simp only [Act.put, pqA, pqB, pqC]
   refine WI.val (by kernel_rfl) (fun c e => by cases e) (.bool true) (by go_simp) ?_
   simp only [Act.put, pqA, pqB, pqC]
   refine WI.nil ?_
   refine hK5 _ _ ?_
   refine wp_cond_true rfl ?_
   refine wp_ret ?_
   try simp only [Exit.inBlock, Exit.then]
   refine bodyPost_ret (results_none rfl _ _ _) rfl ?_
   exact ⟨⟨_, rfl⟩, .inr ⟨_, trivial, hJz⟩⟩
 ·have hte : t = H.length := by omega
  subst hte
  have hneg : ¬ (0 : Int) ≤ (H.length : Int) - 1 - (H.length : Int) := by omega
  have hlt2 : (H.length : Int) - 1 < (H.length : Int) := by omega
  refine wp_seq_k fun K6 hK6 => ?_
  refine wp_seq_k fun K7 hK7 => rgn ?_
  refine VlS (.int .i64 ((H.length : Int) - 1 - (H.length : Int))) ?_
  refine VbF ?_
  refine WL.nil (hK7 _ _ ?_)
  refine wp_cond_false rfl ?_
  refine wp_exit ?_
  simp only [Exit.inBlock, Exit.then, eq_self, if_true]
  go_end0
  refine ⟨⟨_, rfl⟩, .inl ⟨_, rfl, ?_⟩⟩
  have h := JJ.out
  rwa [List.take_of_length_le (by rw [List.length_reverse, List.length_finRange]; exact Nat.le_refl _)] at h
end Go.Proofs.YthlohkgdmfkpeaaGreat
namespace Go.Proofs.YthlohkgdmfkpeaaGreat
open Go.RowKit Go.Sort

theorem run_clearH (w : World) (g k m c : Nat) (E : List Hs) (ty : TypeId) (hg : Blk w g 36 (flatH E).toArray) (hl : E.length = k + m) (hm : 0 < m) :
  (Builtin.clear_ #[24] ty #[.slice (some ⟨g, k * 32, none⟩) m c]).run Tryz.prog w = .ok (.tuple #[]) (w.setRow g (flatH (E.take k ++ List.replicate m default)).toArray) := by
 have hst := run_storeCells_at Tryz.prog g (k * 32) 36 (flatH (List.replicate m default)) 0 _ w hg (by rw [flatH_len, flatH_arr_size, List.length_replicate]; omega) (flatH_one _)
 have hcur : ((flatH E).toArray.toList.take (k * 32 + 0) ++ flatH (List.replicate m default) ++ (flatH E).toArray.toList.drop (k * 32 + 0 + (flatH (List.replicate m default)).length)).toArray = (flatH (E.take k ++ List.replicate m default)).toArray := by
  rw [flatH_len, List.length_replicate, Nat.add_zero, flatH_app]
  show ((flatH E).take (k * 32) ++ _ ++ (flatH E).drop _).toArray = _
  rw [flatH_take, List.drop_of_length_le (by rw [flatH_len]; omega), List.append_nil]
 rw [hcur] at hst
 obtain ⟨i, hi, hzz⟩ := Option.map_eq_some_iff.1 Tryz.info36
 simp only [Prod.mk.injEq] at hzz
 obtain ⟨n, rfl⟩ : ∃ n, m = n + 1 := ⟨m - 1, by omega⟩
 simp [Builtin.clear_, run_underlying Tryz.underlying24, zeroValue, typeInfo, hi, hzz.1, Value.cells, zeroCellsH, hst]

theorem grown_below' (w : World) (q B : Nat) : Below B w (w.drewN q) := ⟨rfl, rfl, rfl, Nat.le_refl _, fun _ _ => rfl⟩
theorem take_setH (E : List Hs) (k : Nat) (x : Hs) (hk : k < E.length) : (E.set k x).take (k + 1) = E.take k ++ [x] := by
 rw [List.set_eq_take_append_cons_drop, if_pos hk, List.take_append, List.take_of_length_le (by rw [List.length_take]; omega), List.length_take, Nat.min_eq_left (by omega), show k + 1 - k = 1 by omega]
 simp
theorem once_snoc : ∀ (l : List Hs) (y x : Hs), once (l ++ [y] ++ [x]) = if y = x then once (l ++ [y]) else once (l ++ [y]) ++ [x]
 | [], y, x => by
  by_cases h : y = x
  ·subst h; simp [once]
  ·simp [once, h]
 | [z], y, x => by
  by_cases h1 : z = y
  ·subst h1
   by_cases h : z = x
   ·subst h; simp [once]
   ·simp [once, h]
  ·by_cases h : y = x
   ·subst h; simp [once, h1]
   ·simp [once, h, h1]
 | z :: z2 :: l, y, x => by
  have ih := once_snoc (z2 :: l) y x
  simp only [List.cons_append] at ih ⊢
  rw [once, ih, once]
  by_cases h1 : z = z2
  ·rw [if_pos h1, if_pos h1]
  ·rw [if_neg h1, if_neg h1]
   by_cases h : y = x
   ·rw [if_pos h, if_pos h]
   ·rw [if_neg h, if_neg h]; rfl
theorem once_take (D : List Hs) (s : Nat) (h : s + 1 < D.length) : once (D.take (s + 2)) = if D[s] = D[s + 1] then once (D.take (s + 1)) else once (D.take (s + 1)) ++ [D[s + 1]] := by
 have h1 : D.take (s + 1) = D.take s ++ [D[s]] := (List.take_append_getElem (by omega)).symm
 have h2 : D.take (s + 2) = D.take (s + 1) ++ [D[s + 1]] := (List.take_append_getElem h).symm
 rw [h2, h1, once_snoc]
theorem once_short : ∀ (D : List Hs), D.length < 2 → once D = D
 | [], _ => rfl
 | [_], _ => rfl
 | _ :: _ :: _, h => by simp only [List.length_cons] at h; omega
theorem once_length : ∀ (D : List Hs), (once D).length ≤ D.length
 | [] => Nat.le_refl _
 | [_] => Nat.le_refl _
 | x :: y :: r => by
  have ih := once_length (y :: r)
  rw [once]
  by_cases h : x = y
  ·rw [if_pos h]; simp only [List.length_cons] at ih ⊢; omega
  ·rw [if_neg h]; simp only [List.length_cons] at ih ⊢; omega

theorem blk_rangeH {w : World} {g : Nat} {E : List Hs} (h : Blk w g 36 (flatH E).toArray) (i : Nat) (hi : i < E.length) : w.rangeAt g (i * 32) (encH E[i]) := fun j v hv => by
 have hj : j < 32 := by have := (List.getElem?_eq_some_iff.1 hv).1; rwa [encH_len] at this
 rw [h.cell, List.getElem?_toArray, flatH_get E i hi j hj]; exact hv
theorem blk_range_of {w : World} {g : Nat} {E D : List Hs} (h : Blk w g 36 (flatH E).toArray) (i : Nat) (hi : i < D.length) (he : E[i]? = D[i]?) : w.rangeAt g (i * 32) (encH D[i]) := by
 rw [List.getElem?_eq_getElem hi] at he
 obtain ⟨hi2, he2⟩ := List.getElem?_eq_some_iff.1 he
 rw [← he2]
 exact blk_rangeH h i hi2

theorem wpList_clearH {ops : Array Oper} {rest : List Oper} {o : Oper} {a : Act} {w : World} {Q : Exit → Act → World → Prop} (hgd : o.guard = none) (x : Operand)
  (ho : o.op = .call { callee := .builtin .clear, args := #[x], argTypes := #[24] }) (g k m c : Nat) (E : List Hs) (hx : a.eval x = .slice (some ⟨g, k * 32, none⟩) m c)
  (hg : Blk w g 36 (flatH E).toArray) (hl : E.length = k + m) (hm : 0 < m)
  (h : wpList Tryz.prog ops Q rest (a.put o.dst (.tuple #[])) (w.setRow g (flatH (E.take k ++ List.replicate m default)).toArray)) : wpList Tryz.prog ops Q (o :: rest) a w := by
 have hrun := run_clearH w g k m c E o.type hg hl hm
 generalize (flatH (E.take k ++ List.replicate m default)).toArray = G at *
 refine wpList_plain hgd fun K hK => ?_
 unfold Oper.wp
 simp only [execOp, ho, resolve, invoke, builtin, List.map_toArray, List.map_cons, List.map_nil, hx, Sem.run_bind, Sem.run_pure, hrun, Result.andThen_ok]
 exact hK _ _ h

def CompPost (g n : Nat) (D : List Hs) (w : World) (e : Ending) (w' : World) : Prop :=
 ∃ (k : Nat) (E : List Hs), e = .returned (.slice (some ⟨g, 0, none⟩) k n) ∧ k ≤ n ∧ E.length = n ∧ E.take k = once D ∧ Blk w' g 36 (flatH E).toArray ∧ ∀ B, B ≤ g → Below B w w'

set_option maxRecDepth 8000 in
set_option maxHeartbeats 400000 in
theorem compact_short (g n : Nat) (D : List Hs) (w : World) (h : Blk w g 36 (flatH D).toArray) (hD : D.length = n) (h2 : n < 2) : Calls Tryz.prog 87 #[.slice (some ⟨g, 0, none⟩) n n] w (CompPost g n D w) := by
 have H : Keep (Blk w g 36 (flatH D).toArray) := ⟨h⟩
 have HD : Keep (D.length = n) := ⟨hD⟩
 clear h hD
 have h2' : (n : Int) < 2 := by omega
 go_enter Tryz.func87, Tryz.ntmps87
 go_wp2
 go_ret
 exact ⟨n, D, rfl, Nat.le_refl _, HD.out, by rw [List.take_of_length_le (by rw [HD.out]; omega), once_short D (by rw [HD.out]; exact h2)], H.out, fun B hB => Below.refl _ _⟩

set_option maxRecDepth 8000 in
set_option maxHeartbeats 1000000 in
theorem compact_walk (g n : Nat) (D : List Hs) (w : World) (h : Blk w g 36 (flatH D).toArray) (hD : D.length = n) (h2 : 2 ≤ n) (hn : n ≤ 4398046511104) : Calls Tryz.prog 87 #[.slice (some ⟨g, 0, none⟩) n n] w (CompPost g n D w) := by
 have H : Keep (Blk w g 36 (flatH D).toArray) := ⟨h⟩
 have HD : Keep (D.length = n) := ⟨hD⟩
 have hu := Tryz.underlying36
 clear h hD
 have h2' : ¬ ((n : Int) < 2) := by omega
 go_enter Tryz.func87, Tryz.ntmps87
 go_wp2
 go_loopw [3] (fun i wr => ∃ k q : Nat, 1 ≤ k ∧ k ≤ n ∧ i = .int .i64 (k : Int) ∧ once (D.take k) = D.take k ∧ wr = w.drewN q) (fun i _ => n - (intOf i).toNat)
 case atStart => exact ⟨1, 0, by omega, by omega, rfl, once_short _ (by rw [List.length_take]; omega), by rw [World.drewN_zero]⟩
 case round =>
  obtain ⟨k0, q, hk1, hkn, rfl, hon, rfl⟩ := hrel
  have HON : Keep (once (D.take k0) = D.take k0) := ⟨hon⟩
  clear hon
  by_cases hlt : k0 < n
  ·obtain ⟨s, hs⟩ : ∃ s, Keep (k0 = s + 1) := ⟨k0 - 1, ⟨by omega⟩⟩
   have l1 : k0 < D.length := by rw [HD.out]; exact hlt
   have l2 : s < D.length := by have := hs.out; omega
   have heq := run_eqlL D[k0] D[s]
   have cA : (w.drewN q).drew.rangeAt g (k0 * 32) (encH D[k0]) := rangeAt_drew (rangeAt_drewN (blk_rangeH H.out k0 l1))
   have cB : (w.drewN q).drew.rangeAt g (s * 32) (encH D[s]) := rangeAt_drew (rangeAt_drewN (blk_rangeH H.out s l2))
   have hi1 := Tryz.size36L D[k0]
   have hi2 := Tryz.size36L D[s]
   obtain ⟨E, hE⟩ : ∃ E, Keep (E = decide (D[k0] = D[s])) := ⟨_, ⟨rfl⟩⟩
   rw [← hE.out] at heq
   have HE : Keep (E = false → once (D.take (k0 + 1)) = D.take (k0 + 1)) := ⟨fun h => by
    have h1 := hE.out; rw [h] at h1
    have h3 := hs.out
    subst h3
    rw [once_take D s l1, if_neg (fun e => of_decide_eq_false h1.symm e.symm), HON.out]
    exact List.take_append_getElem l1⟩
   have HF : Keep (E = true → once (D.take (k0 + 1)) = D.take k0) := ⟨fun h => by
    have h1 := hE.out; rw [h] at h1
    have h3 := hs.out
    subst h3
    rw [once_take D s l1, if_pos (of_decide_eq_true h1.symm).symm, HON.out]⟩
   clear hE
   generalize encH D[k0] = CA at *
   generalize encH D[s] = CB at *
   obtain ⟨wn, hwn⟩ : ∃ wn, Keep (w.drewN q = wn) := ⟨_, ⟨rfl⟩⟩
   rw [hwn.out] at cA cB ⊢
   have hsn : s < n := by have := hs.out; omega
   have f1 : (k0 : Int) < (n : Int) := by omega
   have f2 : (k0 : Int) - 1 = (s : Int) := by have := hs.out; omega
   have f3 : IntKind.i64.wrap (s : Int) = (s : Int) := by rw [IntKind.wrap_i64]; omega
   have f4 : (s : Int) < (n : Int) := by omega
   clear l1 l2
   go_wp2
   refine wp_region_held_drew (S := fun w' => w'.rangeAt g (k0 * 32) CA ∧ w'.rangeAt g (s * 32) CB) (by kernel_rfl) ⟨cA, cB⟩ (fun hHeld => ?_)
   refine TkG (i := 0) (oi := ⟨some 16, Op.move (Operand.tmp 0), 24, _, _, none⟩) (v := Value.slice (some ⟨g, 0, none⟩) n n) rfl hHeld ?_
   refine TkG (i := 1) (oi := ⟨some 17, Op.move (Operand.tmp 3), 3, _, _, none⟩) (v := .int .i64 (k0 : Int)) rfl hHeld ?_
   refine TkG (i := 2) (oi := ⟨some 18, Op.indexAddr 24 (Operand.tmp 16) (Operand.tmp 17), 0, _, _, none⟩) (v := .pointer (some ⟨g, k0 * 32, none⟩)) rfl hHeld ?_
   refine tkS (i := 3) (oi := ⟨some 19, Op.load 36 (Operand.tmp 18), 36, _, _, none⟩) (v := .agg (CA).toArray) rfl (yieldsIf_load_mid (by rfl) 36 (Operand.tmp 18) rfl g (k0 * 32) rfl CA _ (fun w hS => hS.1) hu rfl hi1) hHeld ?_
   refine TkG (i := 4) (oi := ⟨some 20, Op.move (Operand.tmp 0), 24, _, _, none⟩) (v := Value.slice (some ⟨g, 0, none⟩) n n) rfl hHeld ?_
   refine TkG (i := 5) (oi := ⟨some 21, Op.move (Operand.tmp 3), 3, _, _, none⟩) (v := .int .i64 (k0 : Int)) rfl hHeld ?_
   refine TkG (i := 6) (oi := ⟨some 22, Op.binOp BinOp.sub 3 (Operand.tmp 21) (Operand.const (Value.int IntKind.i64 1)) 3, 3, _, _, none⟩) (v := .int .i64 (s : Int)) rfl hHeld ?_
   refine TkG (i := 7) (oi := ⟨some 23, Op.indexAddr 24 (Operand.tmp 20) (Operand.tmp 22), 0, _, _, none⟩) (v := .pointer (some ⟨g, s * 32, none⟩)) rfl hHeld ?_
   refine tkS (i := 8) (oi := ⟨some 24, Op.load 36 (Operand.tmp 23), 36, _, _, none⟩) (v := .agg (CB).toArray) rfl (yieldsIf_load_mid (by rfl) 36 (Operand.tmp 23) rfl g (s * 32) rfl CB _ (fun w hS => hS.2) hu rfl hi2) hHeld ?_
   refine TkG (i := 9) (oi := ⟨some 25, Op.binOp BinOp.eql 36 (Operand.tmp 19) (Operand.tmp 24) 36, 4, _, _, none⟩) (v := .bool E) rfl hHeld ?_
   refine wpAnyH_done (by kernel_rfl) ?_ _
   have HD1 : Keep (∃ k, wn.drew = w.drewN k) := ⟨_, by rw [← hwn.out, World.drew_drewN]⟩
   cases E with
   | false =>
    have HE2 : Keep (once (D.take (k0 + 1)) = D.take (k0 + 1)) := ⟨HE.out rfl⟩
    clear HF HE
    go_wp2
    go_roundw
    case rel =>
     obtain ⟨k, hk⟩ := HD1.out
     exact ⟨k0 + 1, k, by omega, by omega, by go_num, HE2.out, hk⟩
    case measure => simp [intOf]; omega
   | true =>
    have HF2 : Keep (once (D.take (k0 + 1)) = D.take k0) := ⟨HF.out rfl⟩
    clear HF HE
    have f5 : (k0 : Int) ≤ (n : Int) := by omega
    have f6 : ¬ (n - k0 = 0) := by omega
    go_wp2
    have hstart : Blk wn.drew g 36 (flatH D).toArray := by rw [← hwn.out]; exact H.out
    have hstB : ∀ B, B ≤ g → Below B w wn.drew := fun B _ => by rw [← hwn.out]; rw [World.drew_drewN]; exact grown_below' w _ B
    go_loopw [3, 5] (fun a b wr => ∃ (k c d : Nat) (E : List Hs), c = d + 1 ∧ c ≤ n - k0 ∧ 1 ≤ k ∧ k ≤ k0 + d ∧ a = .int .i64 (k : Int) ∧ b = .int .i64 (c : Int) ∧ E.length = n ∧ E.take k = once (D.take (k0 + c)) ∧ (∀ i, k0 + d ≤ i → E[i]? = D[i]?) ∧ Blk wr g 36 (flatH E).toArray ∧ ∀ B, B ≤ g → Below B w wr) (fun _ b _ => n - (intOf b).toNat)
    case atStart => exact ⟨k0, 1, 0, D, rfl, by omega, hk1, by omega, rfl, rfl, HD.out, HF2.out.symm, fun i _ => rfl, hstart, hstB⟩
    case round =>
     clear hstart hstB
     obtain ⟨k, c, d, E, hcd, hc, hk1', hkd, rfl, rfl, hEl, hEt, hEd, hEb, hEB⟩ := hrel
     have HCD : Keep (c = d + 1) := ⟨hcd⟩
     have HEl : Keep (E.length = n) := ⟨hEl⟩
     have HEt : Keep (E.take k = once (D.take (k0 + c))) := ⟨hEt⟩
     have HEd : Keep (∀ i, k0 + d ≤ i → E[i]? = D[i]?) := ⟨hEd⟩
     have HEb : Keep (Blk wr g 36 (flatH E).toArray) := ⟨hEb⟩
     have HEB : Keep (∀ B, B ≤ g → Below B w wr) := ⟨hEB⟩
     have hdn : d + 1 ≤ n - k0 := by omega
     clear hcd hEl hEt hEd hEb hEB
     have g1 : (c : Int) - 1 = (d : Int) := by have := HCD.out; omega
     have g2 : IntKind.i64.wrap (d : Int) = (d : Int) := by rw [IntKind.wrap_i64]; omega
     have g3 : (d : Int) < ((n - k0 : Nat) : Int) := by omega
     have gkn : (k : Int) < (n : Int) := by omega
     obtain ⟨r, hr⟩ : ∃ r, Keep (n - k0 = r) := ⟨_, ⟨rfl⟩⟩
     rw [hr.out] at g3 hc hdn ⊢
     by_cases hcl : c < r
     ·have m1 : k0 + c < D.length := by have := hr.out; rw [HD.out]; omega
      have m2 : k0 + d < D.length := by have := hr.out; rw [HD.out]; omega
      have g4 : (c : Int) < (r : Int) := by omega
      have hneq := run_neqL D[k0 + c] D[k0 + d]
      have cA : wr.drew.rangeAt g (k0 * 32 + c * 32) (encH D[k0 + c]) := by
       rw [← Nat.add_mul]; exact rangeAt_drew (blk_range_of HEb.out (k0 + c) m1 (HEd.out _ (by have := HCD.out; omega)))
      have cB : wr.drew.rangeAt g (k0 * 32 + d * 32) (encH D[k0 + d]) := by
       rw [← Nat.add_mul]; exact rangeAt_drew (blk_range_of HEb.out (k0 + d) m2 (HEd.out _ (Nat.le_refl _)))
      have hi1 := Tryz.size36L D[k0 + c]
      have hi2 := Tryz.size36L D[k0 + d]
      obtain ⟨x, hx⟩ : ∃ x, Keep (x = D[k0 + c]) := ⟨_, ⟨rfl⟩⟩
      obtain ⟨T, hT⟩ : ∃ T, Keep (T = !decide (D[k0 + c] = D[k0 + d])) := ⟨_, ⟨rfl⟩⟩
      rw [← hT.out] at hneq
      have HT0 : Keep (T = false → once (D.take (k0 + (c + 1))) = once (D.take (k0 + c))) := ⟨fun h => by
       have h1 := hT.out; rw [h] at h1
       have h3 := HCD.out
       subst h3
       have := once_take D (k0 + d) (by omega)
       have h2 : D[k0 + d + 1] = D[k0 + d] := of_decide_eq_true ((Bool.not_eq_false' _).mp h1.symm)
       rw [show k0 + (d + 1 + 1) = k0 + d + 2 by omega, this, if_pos h2.symm]
       rfl⟩
      have HT1 : Keep (T = true → once (D.take (k0 + (c + 1))) = once (D.take (k0 + c)) ++ [x]) := ⟨fun h => by
       have h1 := hT.out; rw [h] at h1
       have h3 := HCD.out
       subst h3
       have := once_take D (k0 + d) (by omega)
       have h2 : ¬ D[k0 + d + 1] = D[k0 + d] := of_decide_eq_false ((Bool.not_eq_true' _).mp h1.symm)
       rw [show k0 + (d + 1 + 1) = k0 + d + 2 by omega, this, if_neg (fun e => h2 e.symm), hx.out]
       rfl⟩
      have HX : Keep (E[k0 + c]? = some x) := ⟨by rw [HEd.out _ (by have := HCD.out; omega), List.getElem?_eq_getElem m1, hx.out]⟩
      rw [← hx.out] at hneq cA hi1
      clear hT hx
      obtain ⟨CA, hCA⟩ : ∃ CA, Keep (encH x = CA) := ⟨_, ⟨rfl⟩⟩
      rw [hCA.out] at hneq cA hi1
      generalize encH D[k0 + d] = CB at *
      have hrn : r ≤ n := by have := hr.out; omega
      clear m1 m2
      go_wp2
      refine wp_region_held_drew (S := fun w' => w'.rangeAt g (k0 * 32 + c * 32) CA ∧ w'.rangeAt g (k0 * 32 + d * 32) CB) (by kernel_rfl) ⟨cA, cB⟩ (fun hHeld => ?_)
      refine TkG (i := 0) (oi := ⟨some 35, Op.move (Operand.tmp 4), 24, _, _, none⟩) (v := Value.slice (some ⟨g, k0 * 32, none⟩) r r) rfl hHeld ?_
      refine TkG (i := 1) (oi := ⟨some 36, Op.move (Operand.tmp 5), 3, _, _, none⟩) (v := .int .i64 (c : Int)) rfl hHeld ?_
      refine TkG (i := 2) (oi := ⟨some 37, Op.indexAddr 24 (Operand.tmp 35) (Operand.tmp 36), 0, _, _, none⟩) (v := .pointer (some ⟨g, k0 * 32 + c * 32, none⟩)) rfl hHeld ?_
      refine tkS (i := 3) (oi := ⟨some 38, Op.load 36 (Operand.tmp 37), 36, _, _, none⟩) (v := .agg (CA).toArray) rfl (yieldsIf_load_mid (by rfl) 36 (Operand.tmp 37) rfl g (k0 * 32 + c * 32) rfl CA _ (fun w hS => hS.1) hu rfl hi1) hHeld ?_
      refine TkG (i := 4) (oi := ⟨some 39, Op.move (Operand.tmp 4), 24, _, _, none⟩) (v := Value.slice (some ⟨g, k0 * 32, none⟩) r r) rfl hHeld ?_
      refine TkG (i := 5) (oi := ⟨some 40, Op.move (Operand.tmp 5), 3, _, _, none⟩) (v := .int .i64 (c : Int)) rfl hHeld ?_
      refine TkG (i := 6) (oi := ⟨some 41, Op.binOp BinOp.sub 3 (Operand.tmp 40) (Operand.const (Value.int IntKind.i64 1)) 3, 3, _, _, none⟩) (v := .int .i64 (d : Int)) rfl hHeld ?_
      refine TkG (i := 7) (oi := ⟨some 42, Op.indexAddr 24 (Operand.tmp 39) (Operand.tmp 41), 0, _, _, none⟩) (v := .pointer (some ⟨g, k0 * 32 + d * 32, none⟩)) rfl hHeld ?_
      refine tkS (i := 8) (oi := ⟨some 43, Op.load 36 (Operand.tmp 42), 36, _, _, none⟩) (v := .agg (CB).toArray) rfl (yieldsIf_load_mid (by rfl) 36 (Operand.tmp 42) rfl g (k0 * 32 + d * 32) rfl CB _ (fun w hS => hS.2) hu rfl hi2) hHeld ?_
      refine TkG (i := 9) (oi := ⟨some 44, Op.binOp BinOp.neq 36 (Operand.tmp 38) (Operand.tmp 43) 36, 4, _, _, none⟩) (v := .bool T) rfl hHeld ?_
      refine wpAnyH_done (by kernel_rfl) ?_ _
      cases T with
      | false =>
       have HT2 : Keep (once (D.take (k0 + (c + 1))) = once (D.take (k0 + c))) := ⟨HT0.out rfl⟩
       clear HT0 HT1
       go_wp2
       go_roundw
       case rel => exact ⟨k, c + 1, c, E, rfl, by omega, hk1', by have := HCD.out; omega, rfl, by go_num, HEl.out, by rw [HT2.out]; exact HEt.out, fun i hi => HEd.out i (by have := HCD.out; omega), HEb.out, fun B hB => (HEB.out B hB).drew⟩
       case measure => simp [intOf]; omega
      | true =>
       have HT2 : Keep (once (D.take (k0 + (c + 1))) = once (D.take (k0 + c)) ++ [x]) := ⟨HT1.out rfl⟩
       clear HT0 HT1
       have HBW : Keep (Blk wr.drew g 36 (flatH E).toArray) := HEb
       have cA2 : wr.drew.rangeAt g (k0 * 32 + c * 32) CA := cA
       go_wp2_with (first | (refine wpList_load_mid rfl 36 (.tmp 49) rfl g (k0 * 32 + c * 32) rfl CA (.array 32 5) cA2 hu rfl hi1 ?_) | (refine wpList_storeH rfl (.tmp 51) (.tmp 50) rfl g k x E rfl (by rw [hCA.out]; rfl) HBW.out (by rw [HEl.out]; omega) ?_))
       have HBn : Keep (Blk (wr.drew.setRow g (flatH (E.set k x)).toArray) g 36 (flatH (E.set k x)).toArray) := ⟨HBW.out.setRow _⟩
       have HBB : Keep (∀ B, B ≤ g → Below B w (wr.drew.setRow g (flatH (E.set k x)).toArray)) := ⟨fun B hB => below_setRow (HEB.out B hB).drew hB _⟩
       refine ⟨⟨k + 1, c + 1, c, E.set k x, rfl, by omega, by omega, by have := HCD.out; omega, by go_num, by go_num, by rw [List.length_set]; exact HEl.out, ?_, ?_, HBn.out, HBB.out⟩, by simp [intOf]; omega⟩
       ·rw [HT2.out, ← HEt.out, take_setH E k x (by rw [HEl.out]; omega)]
       ·intro i hi
        rw [List.getElem?_set_ne (by have := HCD.out; omega)]
        exact HEd.out i (by have := HCD.out; omega)
     ·have hce : c = r := by omega
      have HFin : Keep (E.take k = once D) := ⟨by
       rw [HEt.out, List.take_of_length_le (by have := hr.out; rw [HD.out]; omega)]⟩
      have g4 : ¬ ((c : Int) < (r : Int)) := by omega
      have hkn : k < n := by have := hr.out; omega
      have g5 : (k : Int) ≤ (n : Int) := by omega
      have g6 : ¬ (n - k = 0) := by omega
      have HBn : Keep (Blk (wr.setRow g (flatH (E.take k ++ List.replicate (n - k) default)).toArray) g 36 (flatH (E.take k ++ List.replicate (n - k) default)).toArray) := ⟨HEb.out.setRow _⟩
      have HBB : Keep (∀ B, B ≤ g → Below B w (wr.setRow g (flatH (E.take k ++ List.replicate (n - k) default)).toArray)) := ⟨fun B hB => below_setRow (HEB.out B hB) hB _⟩
      have hlk : E.length = k + (n - k) := by rw [HEl.out]; omega
      have HLK : Keep (E.length = k + (n - k)) := ⟨hlk⟩
      clear hlk
      go_wp2_with (refine wpList_clearH rfl (.tmp 56) rfl g k (n - k) (n - k) E rfl HEb.out HLK.out (by omega) ?_)
      go_ret
      have hlt2 : (E.take k).length = k := by rw [List.length_take, HEl.out]; omega
      refine ⟨k, E.take k ++ List.replicate (n - k) default, rfl, by omega, by rw [List.length_append, hlt2, List.length_replicate]; omega, ?_, HBn.out, HBB.out⟩
      rw [List.take_append, hlt2, Nat.sub_self, List.take_zero, List.append_nil, List.take_of_length_le (by omega), HFin.out]
  ·obtain rfl : k0 = n := by omega
   have HBB : Keep (∀ B, B ≤ g → Below B w (w.drewN q)) := ⟨fun B _ => grown_below' w q B⟩
   go_wp2
   go_ret
   refine ⟨k0, D, rfl, Nat.le_refl _, HD.out, ?_, H.out, HBB.out⟩
   have h := HON.out
   rw [List.take_of_length_le (by rw [HD.out]; exact Nat.le_refl _)] at h
   rw [List.take_of_length_le (by rw [HD.out]; exact Nat.le_refl _), h]

theorem compact_any (g n : Nat) (D : List Hs) (w : World) (h : Blk w g 36 (flatH D).toArray) (hD : D.length = n) (hn : n ≤ 4398046511104) : Calls Tryz.prog 87 #[.slice (some ⟨g, 0, none⟩) n n] w (CompPost g n D w) := by
 by_cases h2 : n < 2
 ·exact compact_short g n D w h hD h2
 ·exact compact_walk g n D w h hD (by omega) hn
set_option maxRecDepth 8000 in
set_option maxHeartbeats 1000000 in
theorem sort_any (v : Value) (L : List Hs) (w : World) (h : HRow w v L) (hn : L.length ≤ 4398046511104) : Calls Tryz.prog 71 #[v] w (SortPost L w) := by
 obtain ⟨a, c, hv⟩ := h.form
 obtain ⟨n, hL⟩ : ∃ n, Keep (L.length = n) := ⟨_, ⟨rfl⟩⟩
 have hn' : n ≤ 4398046511104 := by rw [← hL.out]; exact hn
 obtain ⟨M, hM⟩ : ∃ M, Keep (madeCells (bytesA 32 fun _ => 0) (n * 32) = M) := ⟨_, ⟨rfl⟩⟩
 have HMS : Keep (M.size = L.length * 32) := ⟨by rw [← hM.out, size_madeCells, hL.out]⟩
 have HV : Keep (v = .slice a n c) := ⟨by rw [← hL.out]; exact hv⟩
 have HR : Keep (HRow (w.alloc (.cells M 36)) v L) := ⟨h.below (below_new w _)⟩
 have HB0 : Keep (Blk (w.alloc (.cells M 36)) w.heap.size 36 M) := ⟨Blk.new _ _ _⟩
 have HBel : Keep (Below w.heap.size w (w.alloc (.cells M 36))) := ⟨below_new w _⟩
 rw [HV.out]
 clear h hv hn
 go_enter Tryz.func71, Tryz.ntmps71
 go_wp2_with (first | (refine wpList_makeH rfl (.tmp 5) (.tmp 5) rfl n hn' rfl rfl ?_; rw [hM.out]) | (refine wpList_copyH rfl (.tmp 7) (.tmp 8) rfl w.heap.size n v L M (by rw [hL.out]; rfl) (by rw [HV.out]; rfl) HB0.out HMS.out HR.out ?_))
 have HB1 : Keep (Blk ((w.alloc (.cells M 36)).setRow w.heap.size (flatH L).toArray) w.heap.size 36 (flatH L).toArray) := ⟨HB0.out.setRow _⟩
 have HBel1 : Keep (Below w.heap.size w ((w.alloc (.cells M 36)).setRow w.heap.size (flatH L).toArray)) := ⟨below_setRow HBel.out (Nat.le_refl _) _⟩
 generalize (w.alloc (.cells M 36)).setRow w.heap.size (flatH L).toArray = w1 at *
 have hs := sortFunc_any w.heap.size n L w1 HB1.out (by rw [hL.out]; exact hn')
 rw [hL.out] at hs
 go_wp2_with fail
 refine hs.mono ?_
 rintro e w2 ⟨rfl, E, hEl, hEs, hEm, hEb, hEB⟩
 have HE : Keep (E.length = L.length ∧ E.Pairwise (fun x y => ¬ Lt y x) ∧ (∀ x, x ∈ E ↔ x ∈ L)) := ⟨by rw [hEl, hL.out], hEs, hEm⟩
 have HEb : Keep (Blk w2 w.heap.size 36 (flatH E).toArray) := ⟨hEb⟩
 have HBel2 : Keep (Below w.heap.size w w2) := ⟨HBel1.out.trans (hEB _ (Nat.le_refl _))⟩
 clear hEl hEs hEm hEb hEB hs
 go_wp2_with fail
 refine (compact_any w.heap.size n E w2 HEb.out (by rw [HE.out.1, hL.out]) hn').mono ?_
 rintro e w3 ⟨k, F, rfl, hkn, hFl, hFt, hFb, hFB⟩
 have HK : Keep (SortPost L w (.returned (.slice (some ⟨w.heap.size, 0, none⟩) k n)) w3) := ⟨by
  have hk : (once E).length = k := by rw [← hFt, List.length_take, hFl]; omega
  refine ⟨_, once E, rfl, ?_, once_rising E HE.out.2.1, fun x => by rw [once_mem, HE.out.2.2], by have := once_length E; rw [HE.out.1] at this; exact this, HBel2.out.trans (hFB _ (Nat.le_refl _))⟩
  refine ⟨by rw [flatH_len], .inr ⟨w.heap.size, n, (flatH F).toArray, by rw [hk], Nat.le_refl _, hFb, by rw [hk]; exact hkn, by unfold maxLen; omega, by rw [flatH_arr_size, hFl], ?_⟩⟩
  rw [hk, ← hFt]
  exact flatH_take F k⟩
 clear hkn hFl hFt hFb hFB
 go_wp2
 go_ret
 exact HK.out
end Go.Proofs.YthlohkgdmfkpeaaGreat
namespace Go.Proofs.YthlohkgdmfkpeaaGreat
open Go.RowKit
set_option linter.unusedSimpArgs false
set_option linter.unusedVariables false

theorem Tryz.in53 (w : World) (vs : Array Value) : (callFunc 53 vs).run Tryz.prog w = .ok (.enter 53 vs) w := by kernel_rfl
theorem Tryz.in52 (w : World) (vs : Array Value) : (callFunc 52 vs).run Tryz.prog w = .ok (.enter 52 vs) w := by kernel_rfl
theorem Tryz.in24 (w : World) (vs : Array Value) : (callFunc 24 vs).run Tryz.prog w = .ok (.enter 24 vs) w := by kernel_rfl
theorem Tryz.in71 (w : World) (vs : Array Value) : (callFunc 71 vs).run Tryz.prog w = .ok (.enter 71 vs) w := by kernel_rfl
def wh (n t : Nat) : List Nat := (List.range t).foldl addW (List.replicate ((n + 63) / 64) 0)
theorem wh_succ (n t : Nat) : wh n (t + 1) = addW (wh n t) t := by rw [wh, List.range_succ, List.foldl_append]; rfl
theorem wh_len (n : Nat) : ∀ t, (wh n t).length = (n + 63) / 64
 | 0 => by simp [wh]
 | t + 1 => by rw [wh_succ, addW_len, wh_len n t]
theorem wh_wds (n : Nat) : ∀ t, Wds (wh n t)
 | 0 => Wds.room _
 | t + 1 => by rw [wh_succ]; exact (wh_wds n t).add t
set_option maxRecDepth 8000 in
set_option maxHeartbeats 1000000 in
theorem whole_any (H : List EP) (S : List (Nat × List Nat)) (v : Value) (p mb ub : Nat) (w : World) (hR : PastRd w p H S v mb ub) : Calls Tryz.prog 53 #[.pointer (some ⟨p, 0, none⟩)] w fun e w' => e = .returned (.slice (some ⟨w.heap.size, 0, none⟩) (wh H.length H.length).length (wh H.length H.length).length) ∧ Blk w' w.heap.size 93 (wdV (wh H.length H.length)).toArray ∧ Below w.heap.size w w' := by
 obtain ⟨sa, sc1, rfl⟩ := hR.sl.form
 have HR := Keep.mk hR
 clear hR
 go_enter Tryz.func53, Tryz.ntmps53
 refine wp_seq_k fun K1 hK1 => rgn ?_
 refine VlS (.slice none 0 0) ?_
 refine WL.nil (hK1 _ _ ?_)
 refine wp_seq_k fun K2 hK2 => rgn ?_
 refine VlS (.pointer (some ⟨p, 0, none⟩)) ?_
 refine WL.callF (by kernel_rfl) 18 _ _ rfl Tryz.in18 #[.pointer (some ⟨p, 0, none⟩)] (by simp [Act.eval]) ?_
 refine (plen_any H S _ p mb ub w HR.out).mono ?_
 rintro e w1 ⟨rfl, hw1⟩
 refine ⟨_, rfl, ?_⟩
 rw [hw1]
 clear hw1
 simp only [Act.put, pqA, pqB, pqC]
 refine WL.callF (by kernel_rfl) 57 _ _ rfl Tryz.in57 #[.int .i64 (H.length : Int)] (by simp [Act.eval]) ?_
 refine (room_set H.length w (by have := HR.out.n; omega)).mono ?_
 rintro e w1 ⟨rfl, hbk, hb⟩
 refine ⟨_, rfl, ?_⟩
 have HB0 := Keep.mk hbk
 have B0 := Keep.mk hb
 have c0 : w1.cell? ⟨p, 0, none⟩ = some (.slice sa H.length sc1) := (HR.out.below hb).p.c 0 rfl
 clear hbk hb
 simp only [Act.put, pqA, pqB, pqC]
 refine VlS (.slice (some ⟨w.heap.size, 0, none⟩) ((H.length + 63) / 64) ((H.length + 63) / 64)) ?_
 refine WL.nil (hK2 _ _ ?_)
 refine wp_seq_k fun K3 hK3 => ?_
 refine wp_seq_k fun K4 hK4 => rgn ?_
 refine VlS (.pointer (some ⟨p, 0, none⟩)) ?_
 refine VlS (.pointer (some ⟨p, 0, none⟩)) ?_
 refine VlS (.pointer (some ⟨p, 0, none⟩)) ?_
 refine VlS (.slice sa H.length sc1) ?_
 refine VlS (.int .i64 (H.length : Int)) ?_
 refine VlS (.int .i64 0) ?_
 refine WL.nil (hK4 _ _ ?_)
 refine wp_block ?_
 refine wp_loop (fun ac wr => ∃ (t : Nat) (u4 u14 u15 u16 u17 u18 u19 : Value), ac = { tmps := #[.pointer (some ⟨p, 0, none⟩), undef, .slice none 0 0, .slice (some ⟨w.heap.size, 0, none⟩) ((H.length + 63) / 64) ((H.length + 63) / 64), u4, .pointer (some ⟨p, 0, none⟩), .int .i64 (H.length : Int), .slice (some ⟨w.heap.size, 0, none⟩) ((H.length + 63) / 64) ((H.length + 63) / 64), .pointer (some ⟨p, 0, none⟩), .pointer (some ⟨p, 0, none⟩), .pointer (some ⟨p, 0, none⟩), .slice sa H.length sc1, .int .i64 (H.length : Int), .int .i64 (t : Int), u14, u15, u16, u17, u18, u19, undef], defers := [] } ∧ t ≤ H.length ∧ Below w.heap.size w wr ∧ Blk wr w.heap.size 93 (wdV (wh H.length t)).toArray) (fun a _ => H.length - (intOf (a.tmps.getD 13 undef)).toNat) ⟨0, undef, undef, undef, undef, undef, undef, undef, rfl, by omega, B0.out, HB0.out⟩ ?_
 rintro ac wr ⟨t, u4, u14, u15, u16, u17, u18, u19, rfl, ht, hB, hG⟩
 have JB := Keep.mk hB
 have JG := Keep.mk hG
 clear hB hG
 by_cases htl : t < H.length
 ·have htl' : (t : Int) < (H.length : Int) := by omega
  have hwt : IntKind.i64.wrap ((t : Int) + 1) = ((t + 1 : Nat) : Int) := by rw [IntKind.wrap_i64]; have := HR.out.n; omega
  refine wp_seq_k fun K5 hK5 => rgn ?_
  refine VbT ?_
  refine WL.nil (hK5 _ _ ?_)
  refine wp_seq_k fun K6 hK6 => ?_
  refine wp_cond_true rfl ?_
  refine wp_skip ?_
  refine hK6 _ _ ?_
  refine wp_seq_k fun K7 hK7 => ?_
  refine wp_block ?_
  refine wp_seq_k fun K8 hK8 => rgn ?_
  refine VlS (.int .i64 (t : Int)) ?_
  refine VlS (.int .i64 (t : Int)) ?_
  refine WL.nil (hK8 _ _ ?_)
  refine rgn ?_
  refine VlS (.slice (some ⟨w.heap.size, 0, none⟩) ((H.length + 63) / 64) ((H.length + 63) / 64)) ?_
  refine VlS (.int .i64 (t : Int)) ?_
  refine WL.callF (by kernel_rfl) 58 _ _ rfl Tryz.in58 #[.slice (some ⟨w.heap.size, 0, none⟩) ((H.length + 63) / 64) ((H.length + 63) / 64), .int .i64 (t : Int)] (by simp [Act.eval]) ?_
  refine ((by have h := add_set w.heap.size t (wh H.length t) wr JG.out (by rw [wh_len]; omega) (by rw [wh_len]; have := HR.out.n; omega) (wh_wds _ _); rw [wh_len] at h; exact h : Calls Tryz.prog 58 #[.slice (some ⟨w.heap.size, 0, none⟩) ((H.length + 63) / 64) ((H.length + 63) / 64), .int .i64 (t : Int)] wr _)).mono ?_
  rintro e wx ⟨rfl, hbk, hg⟩
  refine ⟨_, rfl, ?_⟩
  have JGx := Keep.mk hbk
  have JBx : Keep (Below w.heap.size w wx) := ⟨JB.out.trans (hg.to_below (fun k hk e => by omega) JB.out.size)⟩
  clear hbk hg
  simp only [Act.put, pqA, pqB, pqC]
  refine WL.nil (hK7 _ _ ?_)
  refine rgn ?_
  refine VlS (.int .i64 ((t + 1 : Nat) : Int)) ?_
  refine VlS (.int .i64 ((t + 1 : Nat) : Int)) ?_
  refine WL.nil ?_
  refine ⟨⟨t + 1, .int .i64 (t : Int), .bool true, .int .i64 (t : Int), .slice (some ⟨w.heap.size, 0, none⟩) ((H.length + 63) / 64) ((H.length + 63) / 64), .int .i64 (t : Int), .tuple #[], .int .i64 ((t + 1 : Nat) : Int), rfl, by omega, JBx.out, by rw [wh_succ]; exact JGx.out⟩, by simp [intOf]; omega⟩
 ·have hte : t = H.length := by omega
  subst hte
  refine wp_seq_k fun K9 hK9 => rgn ?_
  refine VbF ?_
  refine WL.nil (hK9 _ _ ?_)
  refine wp_seq_k fun K10 hK10 => ?_
  refine wp_cond_false rfl ?_
  refine wp_exit ?_
  refine hK3 _ _ ?_
  refine wp_seq_k fun K11 hK11 => rgn ?_
  refine VlS (.slice (some ⟨w.heap.size, 0, none⟩) ((H.length + 63) / 64) ((H.length + 63) / 64)) ?_
  refine VlS (.slice (some ⟨w.heap.size, 0, none⟩) ((H.length + 63) / 64) ((H.length + 63) / 64)) ?_
  refine WL.nil (hK11 _ _ ?_)
  refine wp_ret ?_
  go_ret
  exact ⟨by rw [wh_len]; rfl, JG.out, JB.out⟩
end Go.Proofs.YthlohkgdmfkpeaaGreat
