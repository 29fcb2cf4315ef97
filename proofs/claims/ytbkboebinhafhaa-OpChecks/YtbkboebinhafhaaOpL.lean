import Derived.Test.YtbkboebinhafhaaOpM
namespace Go.Proofs.Ytbkboebinhafhaa
open Go.RowKit
set_option linter.unusedSimpArgs false

set_option maxRecDepth 8000 in
set_option maxHeartbeats 2000000 in
theorem checks_any (v : Value) (l : List OpV) (kind : Int) (w : World) (hl : OpsAt w v l) (hok : ∀ x ∈ l, OpOk x) (hb : l.length ≤ 4398046511104) :
    Calls Try.prog 4 #[v, .int .i64 kind] w fun e w' => e = .returned (.bool true) ∧ Below w.heap.size w w' := by
  obtain ⟨va, vc, rfl⟩ := hl.form
  have HL := Keep.mk hl
  have Hok := Keep.mk hok
  have Hlb := Keep.mk hb
  have hb' : (l.length : Int) ≤ 9223372036854775807 := by omega
  clear hl hok hb
  go_enter Try.func4, Try.ntmps4
  refine wp_seq_k fun K1 hK1 => ?_
  refine wp_region_list (WL.out ?_)
  refine WL.val (by kernel_rfl) (.bool false) (by go_simp) ?_
  simp only [Act.put, List.setIfInBounds_toArray, List.set_cons_zero, List.set_cons_succ]
  refine WL.nil ?_
  refine hK1 _ _ ?_
  refine wp_seq_k fun K2 hK2 => ?_
  refine wp_region_list (WL.out ?_)
  refine WL.val (by kernel_rfl) (.slice va l.length vc) (by go_simp) ?_
  simp only [Act.put, List.setIfInBounds_toArray, List.set_cons_zero, List.set_cons_succ]
  refine WL.callF (by kernel_rfl) 10 _ _ rfl Try.in10 #[.slice va l.length vc] (by simp [Act.eval]) ?_
  refine (check_any _ l w HL.out Hok.out Hlb.out).mono ?_
  rintro e w1 ⟨rfl, h1⟩
  refine ⟨_, rfl, ?_⟩
  have HB1 := Keep.mk h1
  clear h1
  simp only [Act.put, List.setIfInBounds_toArray, List.set_cons_zero, List.set_cons_succ]
  refine WL.val (by kernel_rfl) (.tuple #[.int .i64 (chk l).1, .int .i64 ((chk l).2 : Int)]) (by go_simp) ?_
  simp only [Act.put, List.setIfInBounds_toArray, List.set_cons_zero, List.set_cons_succ]
  refine WL.val (by kernel_rfl) (.int .i64 (chk l).1) (by go_simp) ?_
  simp only [Act.put, List.setIfInBounds_toArray, List.set_cons_zero, List.set_cons_succ]
  refine WL.val (by kernel_rfl) (.int .i64 ((chk l).2 : Int)) (by go_simp) ?_
  simp only [Act.put, List.setIfInBounds_toArray, List.set_cons_zero, List.set_cons_succ]
  refine WL.val (by kernel_rfl) (.int .i64 (chk l).1) (by go_simp) ?_
  simp only [Act.put, List.setIfInBounds_toArray, List.set_cons_zero, List.set_cons_succ]
  refine WL.val (by kernel_rfl) (.int .i64 ((chk l).2 : Int)) (by go_simp) ?_
  simp only [Act.put, List.setIfInBounds_toArray, List.set_cons_zero, List.set_cons_succ]
  refine WL.nil ?_
  refine hK2 _ _ ?_
  refine wp_seq_k fun K3 hK3 => ?_
  refine wp_region_list (WL.out ?_)
  refine WL.val (by kernel_rfl) (.slice va l.length vc) (by go_simp) ?_
  simp only [Act.put, List.setIfInBounds_toArray, List.set_cons_zero, List.set_cons_succ]
  refine WL.callF (by kernel_rfl) 11 _ _ rfl Try.in11 #[.slice va l.length vc] (by simp [Act.eval]) ?_
  refine (rcheck_any _ l w1 (HL.out.below HB1.out) Hok.out Hlb.out).mono ?_
  rintro e w2 ⟨rfl, h2⟩
  refine ⟨_, rfl, ?_⟩
  have HB2 := Keep.mk (HB1.out.trans (h2.mono HB1.out.size))
  clear h2
  simp only [Act.put, List.setIfInBounds_toArray, List.set_cons_zero, List.set_cons_succ]
  refine WL.val (by kernel_rfl) (.tuple #[.int .i64 (chk l).1, .int .i64 ((chk l).2 : Int)]) (by go_simp) ?_
  simp only [Act.put, List.setIfInBounds_toArray, List.set_cons_zero, List.set_cons_succ]
  refine WL.val (by kernel_rfl) (.int .i64 (chk l).1) (by go_simp) ?_
  simp only [Act.put, List.setIfInBounds_toArray, List.set_cons_zero, List.set_cons_succ]
  refine WL.val (by kernel_rfl) (.int .i64 ((chk l).2 : Int)) (by go_simp) ?_
  simp only [Act.put, List.setIfInBounds_toArray, List.set_cons_zero, List.set_cons_succ]
  refine WL.val (by kernel_rfl) (.int .i64 (chk l).1) (by go_simp) ?_
  simp only [Act.put, List.setIfInBounds_toArray, List.set_cons_zero, List.set_cons_succ]
  refine WL.val (by kernel_rfl) (.int .i64 ((chk l).2 : Int)) (by go_simp) ?_
  simp only [Act.put, List.setIfInBounds_toArray, List.set_cons_zero, List.set_cons_succ]
  refine WL.nil ?_
  refine hK3 _ _ ?_
  refine wp_seq_k fun K4 hK4 => ?_
  refine wp_seq_k fun K5 hK5 => ?_
  refine wp_region_list (WL.out ?_)
  refine WL.val (by kernel_rfl) (.int .i64 (chk l).1) (by go_simp) ?_
  simp only [Act.put, List.setIfInBounds_toArray, List.set_cons_zero, List.set_cons_succ]
  refine WL.val (by kernel_rfl) (.int .i64 (chk l).1) (by go_simp) ?_
  simp only [Act.put, List.setIfInBounds_toArray, List.set_cons_zero, List.set_cons_succ]
  refine WL.val (by kernel_rfl) (.bool false) (by go_simp) ?_
  simp only [Act.put, List.setIfInBounds_toArray, List.set_cons_zero, List.set_cons_succ]
  refine WL.val (by kernel_rfl) (.bool false) (by go_simp) ?_
  simp only [Act.put, List.setIfInBounds_toArray, List.set_cons_zero, List.set_cons_succ]
  refine WL.val (by kernel_rfl) (.int .i64 ((chk l).2 : Int)) (by go_simp) ?_
  simp only [Act.put, List.setIfInBounds_toArray, List.set_cons_zero, List.set_cons_succ]
  refine WL.val (by kernel_rfl) (.int .i64 ((chk l).2 : Int)) (by go_simp) ?_
  simp only [Act.put, List.setIfInBounds_toArray, List.set_cons_zero, List.set_cons_succ]
  refine WL.val (by kernel_rfl) (.bool false) (by go_simp) ?_
  simp only [Act.put, List.setIfInBounds_toArray, List.set_cons_zero, List.set_cons_succ]
  refine WL.val (by kernel_rfl) (.bool false) (by go_simp) ?_
  simp only [Act.put, List.setIfInBounds_toArray, List.set_cons_zero, List.set_cons_succ]
  refine WL.val (by kernel_rfl) (.bool false) (by go_simp) ?_
  simp only [Act.put, List.setIfInBounds_toArray, List.set_cons_zero, List.set_cons_succ]
  refine WL.val (by kernel_rfl) (.int .i64 kind) (by go_simp) ?_
  simp only [Act.put, List.setIfInBounds_toArray, List.set_cons_zero, List.set_cons_succ]
  refine WL.callF (by kernel_rfl) 12 _ _ rfl Try.in12 #[.int .i64 kind] (by simp [Act.eval]) ?_
  refine (cell_any kind w2).mono ?_
  rintro e w3 ⟨rfl, hw3⟩
  subst hw3
  refine ⟨_, rfl, ?_⟩
  simp only [Act.put, List.setIfInBounds_toArray, List.set_cons_zero, List.set_cons_succ]
  refine WL.val (by kernel_rfl) (.int .i64 kind) (by go_simp) ?_
  simp only [Act.put, List.setIfInBounds_toArray, List.set_cons_zero, List.set_cons_succ]
  refine WL.callF (by kernel_rfl) 13 _ _ rfl Try.in13 #[.int .i64 kind] (by simp [Act.eval]) ?_
  refine (rcell_any kind w3).mono ?_
  rintro e w4 ⟨rfl, hw4⟩
  subst hw4
  refine ⟨_, rfl, ?_⟩
  simp only [Act.put, List.setIfInBounds_toArray, List.set_cons_zero, List.set_cons_succ]
  refine WL.val (by kernel_rfl) (.bool false) (by go_simp) ?_
  simp only [Act.put, List.setIfInBounds_toArray, List.set_cons_zero, List.set_cons_succ]
  refine WL.val (by kernel_rfl) (.bool false) (by go_simp) ?_
  simp only [Act.put, List.setIfInBounds_toArray, List.set_cons_zero, List.set_cons_succ]
  refine WL.nil ?_
  refine hK5 _ _ ?_
  refine wp_cond_false rfl ?_
  refine wp_skip ?_
  refine hK4 _ _ ?_
  refine wp_seq_k fun K6 hK6 => ?_
  refine wp_seq_k fun K7 hK7 => ?_
  refine wp_region_list (WL.out ?_)
  refine WL.val (by kernel_rfl) (.int .i64 0) (by go_simp) ?_
  simp only [Act.put, List.setIfInBounds_toArray, List.set_cons_zero, List.set_cons_succ]
  refine WL.nil ?_
  refine hK7 _ _ ?_
  refine wp_block ?_
  refine wp_loop (fun a wr => ∃ (t : Nat) (u4 u10 u11 u37 u38 u39 u40 u41 u42 u43 u44 u45 u46 u47 u48 u49 u50 u51 u52 u53 u54 u55 u56 u57 u58 u59 u60 u61 u62 u63 u64 u65 u66 u67 u68 u69 u70 u71 u72 u73 u74 u75 u76 u77 u78 u79 u80 u81 u82 u83 u84 u85 u86 : Value), a = { tmps := #[.slice va l.length vc, .int .i64 kind, undef, undef, u4, .int .i64 (chk l).1, .int .i64 ((chk l).2 : Int), .int .i64 (chk l).1, .int .i64 ((chk l).2 : Int), .int .i64 (t : Int), u10, u11, .tuple #[.int .i64 (chk l).1, .int .i64 ((chk l).2 : Int)], .slice va l.length vc, .tuple #[.int .i64 (chk l).1, .int .i64 ((chk l).2 : Int)], .int .i64 (chk l).1, .int .i64 ((chk l).2 : Int), .tuple #[.int .i64 (chk l).1, .int .i64 ((chk l).2 : Int)], .slice va l.length vc, .tuple #[.int .i64 (chk l).1, .int .i64 ((chk l).2 : Int)], .int .i64 (chk l).1, .int .i64 ((chk l).2 : Int), .int .i64 (chk l).1, .int .i64 (chk l).1, .bool false, .bool false, .int .i64 ((chk l).2 : Int), .int .i64 ((chk l).2 : Int), .bool false, .bool false, .bool false, .int .i64 kind, .int .i64 (cellV kind), .int .i64 kind, .int .i64 (cellV kind), .bool false, .bool false, u37, u38, u39, u40, u41, u42, u43, u44, u45, u46, u47, u48, u49, u50, u51, u52, u53, u54, u55, u56, u57, u58, u59, u60, u61, u62, u63, u64, u65, u66, u67, u68, u69, u70, u71, u72, u73, u74, u75, u76, u77, u78, u79, u80, u81, u82, u83, u84, u85, u86, undef], defers := [] } ∧ t ≤ l.length ∧ Below w.heap.size w wr) (fun a _ => l.length - (intOf (a.tmps.getD 9 undef)).toNat) ⟨0, .bool false, undef, undef, undef, undef, undef, undef, undef, undef, undef, undef, undef, undef, undef, undef, undef, undef, undef, undef, undef, undef, undef, undef, undef, undef, undef, undef, undef, undef, undef, undef, undef, undef, undef, undef, undef, undef, undef, undef, undef, undef, undef, undef, undef, undef, undef, undef, undef, undef, undef, undef, undef, undef, rfl, by omega, HB2.out⟩ ?_
  rintro a wr ⟨t, u4, u10, u11, u37, u38, u39, u40, u41, u42, u43, u44, u45, u46, u47, u48, u49, u50, u51, u52, u53, u54, u55, u56, u57, u58, u59, u60, u61, u62, u63, u64, u65, u66, u67, u68, u69, u70, u71, u72, u73, u74, u75, u76, u77, u78, u79, u80, u81, u82, u83, u84, u85, u86, rfl, ht, hB⟩
  by_cases htl : t < l.length
  · have htl' : (t : Int) < (l.length : Int) := by omega
    have hLr := HL.out.below hB
    obtain ⟨gL, ofL, hva, hra⟩ := hLr.at htl
    obtain ⟨tb, htb⟩ : ∃ tb : Nat, Keep ((l.length : Int) - 1 - (t : Int) = (tb : Int) ∧ tb < l.length) := ⟨l.length - 1 - t, ⟨by omega, by omega⟩⟩
    obtain ⟨g2, of2, hva2, hrb⟩ := hLr.at htb.out.2
    obtain ⟨e1, e2⟩ : g2 = gL ∧ of2 = ofL := by rw [hva] at hva2; simp at hva2; exact ⟨hva2.1.symm, hva2.2.symm⟩
    rw [e1, e2] at hrb
    have hma : l.getD t zeroOp ∈ l := by simp [List.getD_eq_getElem?_getD, htl]
    have Hxa := Keep.mk (Hok.out _ hma)
    generalize l.getD t zeroOp = xa at *
    generalize l.getD tb zeroOp = xb at *
    have hwr1 : IntKind.i64.wrap ((t : Int) + 1) = (t : Int) + 1 := by rw [IntKind.wrap_i64]; have := Hlb.out; omega
    have hws1 : IntKind.i64.wrap ((l.length : Int) - 1) = (l.length : Int) - 1 := by rw [IntKind.wrap_i64]; have := Hlb.out; omega
    have hws2 : IntKind.i64.wrap ((l.length : Int) - 1 - (t : Int)) = (tb : Int) := by rw [← htb.out.1, IntKind.wrap_i64]; have := Hlb.out; omega
    have htbl : (tb : Int) < (l.length : Int) := by have := htb.out.2; omega
    have HSa : Keep (∀ wx, Below wr.heap.size wr wx → wx.rangeAt gL (ofL + t * 37) (opL xa) ∧ wx.rangeAt gL (ofL + tb * 37) (opL xb)) := ⟨fun wx hx => ⟨range_grown hra (Grown.below (S := fun _ => False) hx) (fun h => h), range_grown hrb (Grown.below (S := fun _ => False) hx) (fun h => h)⟩⟩
    have HBl := Keep.mk hB
    have hsm := sm_refl xa
    have hsn := sm_next xa
    clear hLr hra hrb hva2 e1 e2 hma hB
    refine wp_seq_k fun K8 hK8 => ?_
    refine wp_seq_k fun K9 hK9 => ?_
    refine wp_region_list (WL.out ?_)
    refine WL.val (by kernel_rfl) (.int .i64 (t : Int)) (by go_simp) ?_
    simp only [Act.put, List.setIfInBounds_toArray, List.set_cons_zero, List.set_cons_succ]
    refine WL.val (by kernel_rfl) (.slice va l.length vc) (by go_simp) ?_
    simp only [Act.put, List.setIfInBounds_toArray, List.set_cons_zero, List.set_cons_succ]
    refine WL.val (by kernel_rfl) (.int .i64 (l.length : Int)) (by go_simp) ?_
    simp only [Act.put, List.setIfInBounds_toArray, List.set_cons_zero, List.set_cons_succ]
    refine WL.val (by kernel_rfl) (.bool true) (by go_simp) ?_
    simp only [Act.put, List.setIfInBounds_toArray, List.set_cons_zero, List.set_cons_succ]
    refine WL.nil ?_
    refine hK9 _ _ ?_
    refine wp_cond_true rfl ?_
    refine wp_skip ?_
    refine hK8 _ _ ?_
    refine wp_seq_k fun K10 hK10 => ?_
    refine wp_block ?_
    refine wp_seq_k fun K11 hK11 => ?_
    have rest : ∀ (g1 g2 : Nat) (w9 : World), g1 ≠ g2 → Blk w9 g1 33 (opA xa) → Blk w9 g2 33 (opA xb) → wr.heap.size ≤ g1 → wr.heap.size ≤ g2 → Below wr.heap.size wr w9 → K11 { tmps := #[.slice va l.length vc, .int .i64 kind, undef, undef, u4, .int .i64 (chk l).1, .int .i64 ((chk l).2 : Int), .int .i64 (chk l).1, .int .i64 ((chk l).2 : Int), .int .i64 (t : Int), .pointer (some ⟨g1, 0, none⟩), .pointer (some ⟨g2, 0, none⟩), .tuple #[.int .i64 (chk l).1, .int .i64 ((chk l).2 : Int)], .slice va l.length vc, .tuple #[.int .i64 (chk l).1, .int .i64 ((chk l).2 : Int)], .int .i64 (chk l).1, .int .i64 ((chk l).2 : Int), .tuple #[.int .i64 (chk l).1, .int .i64 ((chk l).2 : Int)], .slice va l.length vc, .tuple #[.int .i64 (chk l).1, .int .i64 ((chk l).2 : Int)], .int .i64 (chk l).1, .int .i64 ((chk l).2 : Int), .int .i64 (chk l).1, .int .i64 (chk l).1, .bool false, .bool false, .int .i64 ((chk l).2 : Int), .int .i64 ((chk l).2 : Int), .bool false, .bool false, .bool false, .int .i64 kind, .int .i64 (cellV kind), .int .i64 kind, .int .i64 (cellV kind), .bool false, .bool false, .int .i64 (t : Int), .slice va l.length vc, .int .i64 (l.length : Int), .bool true, u41, u42, .slice va l.length vc, .int .i64 (t : Int), .pointer (some ⟨gL, ofL + t * 37, none⟩), .agg (opL xa).toArray, .slice va l.length vc, .slice va l.length vc, .int .i64 (l.length : Int), .int .i64 ((l.length : Int) - 1), .int .i64 (t : Int), .int .i64 (tb : Int), .pointer (some ⟨gL, ofL + tb * 37, none⟩), .agg (opL xb).toArray, u55, u56, u57, u58, u59, u60, u61, u62, u63, u64, u65, u66, u67, u68, u69, u70, u71, u72, u73, u74, u75, u76, u77, u78, u79, u80, u81, u82, u83, u84, u85, u86, undef], defers := [] } w9 := by
      intro g1 g2 w9 hne hA hB9 hl1 hl2 hW9
      have HA := Keep.mk hA
      have HB9 := Keep.mk hB9
      have HW9 := Keep.mk hW9
      have Hne := Keep.mk hne
      have Hl1 := Keep.mk hl1
      have Hl2 := Keep.mk hl2
      clear hA hB9 hW9 hne hl1 hl2
      refine hK11 _ _ ?_
      refine wp_seq_k fun K12 hK12 => ?_
      refine wp_seq_k fun K13 hK13 => ?_
      have HS9 : Keep (∀ wx, Below w9.heap.size w9 wx → Blk wx g1 33 (opA xa) ∧ Blk wx g2 33 (opA xb) ∧ wx.cell? ⟨g1, 0, none⟩ = some (.int .i64 xa.kind)) := ⟨fun wx hx => ⟨HA.out.below hx HA.out.lt, HB9.out.below hx HB9.out.lt, (HA.out.below hx HA.out.lt).c 0 (opA_0 xa)⟩⟩
      have hD9 : Below w9.heap.size w9 w9.drew := (Below.refl _ _).drew
      refine wp_region_held_drew (S := fun wx => Blk wx g1 33 (opA xa) ∧ Blk wx g2 33 (opA xb) ∧ wx.cell? ⟨g1, 0, none⟩ = some (.int .i64 xa.kind)) (by kernel_rfl) (HS9.out _ hD9) (fun hHeld => ?_)
      refine wpAnyH_take (i := 0) (oi := ⟨some 55, Op.fieldAddr 33 (Operand.tmp 10) 0, 0, _, _, none⟩) (v := .pointer (some ⟨g1, 0, none⟩)) rfl (by kernel_rfl) (by kernel_rfl) (by kernel_rfl) (fun _ _ _ h => h) (Or.inl ⟨by rfl, fun w hS => by obtain ⟨hs1, hs2, hs3⟩ := hS; go_simp⟩) hHeld ?_
      simp only [Act.put, List.setIfInBounds_toArray, List.set_cons_zero, List.set_cons_succ]
      refine wpAnyH_take (i := 1) (oi := ⟨some 56, Op.load 3 (Operand.tmp 55), 3, _, _, none⟩) (v := .int .i64 xa.kind) rfl (by kernel_rfl) (by kernel_rfl) (by kernel_rfl) (fun _ _ _ h => h) (Or.inl ⟨by rfl, fun w hS => by obtain ⟨hs1, hs2, hs3⟩ := hS; go_simp⟩) hHeld ?_
      simp only [Act.put, List.setIfInBounds_toArray, List.set_cons_zero, List.set_cons_succ]
      refine wpAnyH_take (i := 3) (oi := ⟨some 58, Op.fieldAddr 33 (Operand.tmp 10) 0, 0, _, _, none⟩) (v := .pointer (some ⟨g1, 0, none⟩)) rfl (by kernel_rfl) (by kernel_rfl) (by kernel_rfl) (fun _ _ _ h => h) (Or.inl ⟨by rfl, fun w hS => by obtain ⟨hs1, hs2, hs3⟩ := hS; go_simp⟩) hHeld ?_
      simp only [Act.put, List.setIfInBounds_toArray, List.set_cons_zero, List.set_cons_succ]
      refine wpAnyH_take (i := 4) (oi := ⟨some 59, Op.load 3 (Operand.tmp 58), 3, _, _, none⟩) (v := .int .i64 xa.kind) rfl (by kernel_rfl) (by kernel_rfl) (by kernel_rfl) (fun _ _ _ h => h) (Or.inl ⟨by rfl, fun w hS => by obtain ⟨hs1, hs2, hs3⟩ := hS; go_simp⟩) hHeld ?_
      simp only [Act.put, List.setIfInBounds_toArray, List.set_cons_zero, List.set_cons_succ]
      refine wpAnyH_ready (rs := [2]) (by kernel_rfl) (by simp) ?_
      refine AllReadyH.cons (o := ⟨some 57, Op.call { callee := Callee.value (Operand.func 12), args := #[Operand.tmp 56], argTypes := #[3] }, 3, _, _, none⟩) rfl (fun K hK => ?_) AllReadyH.nil
      rw [if_pos (by rfl)]
      refine wp_callF 12 _ _ rfl Try.in12 #[.int .i64 xa.kind] (by simp [Act.eval, rng_load]) (fun vz wz => vz = .int .i64 (cellV xa.kind) ∧ Below w9.heap.size w9 wz) ?_ ?_
      · refine (cell_any xa.kind w9.drew).mono ?_
        rintro e wz ⟨rfl, h⟩
        exact ⟨_, rfl, rfl, by rw [h]; exact hD9⟩
      rintro vz wa ⟨rfl, h_wa⟩
      have B_wa := Keep.mk h_wa
      clear h_wa
      refine hK.out _ _ (HS9.out _ B_wa.out) fun held_wa => ?_
      clear hK
      simp only [Act.put, List.setIfInBounds_toArray, List.set_cons_zero, List.set_cons_succ]
      refine wpAnyH_ready (rs := [5]) (by kernel_rfl) (by simp) ?_
      refine AllReadyH.cons (o := ⟨some 60, Op.call { callee := Callee.value (Operand.func 13), args := #[Operand.tmp 59], argTypes := #[3] }, 3, _, _, none⟩) rfl (fun K hK => ?_) AllReadyH.nil
      rw [if_pos (by rfl)]
      refine wp_callF 13 _ _ rfl Try.in13 #[.int .i64 xa.kind] (by simp [Act.eval, rng_load]) (fun vz wz => vz = .int .i64 (cellV xa.kind) ∧ Below w9.heap.size w9 wz) ?_ ?_
      · refine (rcell_any xa.kind wa).mono ?_
        rintro e wz ⟨rfl, h⟩
        exact ⟨_, rfl, rfl, by rw [h]; exact B_wa.out⟩
      rintro vz wb ⟨rfl, h_wb⟩
      have B_wb := Keep.mk h_wb
      clear h_wb
      refine hK.out _ _ (HS9.out _ B_wb.out) fun held_wb => ?_
      clear hK
      simp only [Act.put, List.setIfInBounds_toArray, List.set_cons_zero, List.set_cons_succ]
      refine wpAnyH_take (i := 6) (oi := ⟨some 61, Op.binOp BinOp.neq 3 (Operand.tmp 57) (Operand.tmp 60) 3, 4, _, _, none⟩) (v := .bool false) rfl (by kernel_rfl) (by kernel_rfl) (by kernel_rfl) (fun _ _ _ h => h) (Or.inl ⟨by rfl, fun w hS => by obtain ⟨hs1, hs2, hs3⟩ := hS; go_simp⟩) held_wb ?_
      simp only [Act.put, List.setIfInBounds_toArray, List.set_cons_zero, List.set_cons_succ]
      refine wpAnyH_take (i := 7) (oi := ⟨some 62, Op.move (Operand.tmp 61), 4, _, _, none⟩) (v := .bool false) rfl (by kernel_rfl) (by kernel_rfl) (by kernel_rfl) (fun _ _ _ h => h) (Or.inl ⟨by rfl, fun w hS => by obtain ⟨hs1, hs2, hs3⟩ := hS; go_simp⟩) held_wb ?_
      simp only [Act.put, List.setIfInBounds_toArray, List.set_cons_zero, List.set_cons_succ]
      refine wpAnyH_take (i := 8) (oi := ⟨some 63, Op.load 33 (Operand.tmp 10), 33, _, _, some (7, false)⟩) (v := .agg (opL xa).toArray) rfl (by kernel_rfl) (by kernel_rfl) (by kernel_rfl) (fun _ _ _ h => h) (yieldsIf_load_mid (by rfl) 33 (Operand.tmp 10) rfl g1 0 rfl (opL xa) _ (fun w hS => blk_range hS.1) Try.underlying33 rfl (Try.size33L xa)) held_wb ?_
      simp only [Act.put, List.setIfInBounds_toArray, List.set_cons_zero, List.set_cons_succ]
      refine wpAnyH_take (i := 9) (oi := ⟨some 64, Op.load 33 (Operand.tmp 11), 33, _, _, some (7, false)⟩) (v := .agg (opL xb).toArray) rfl (by kernel_rfl) (by kernel_rfl) (by kernel_rfl) (fun _ _ _ h => h) (yieldsIf_load_mid (by rfl) 33 (Operand.tmp 11) rfl g2 0 rfl (opL xb) _ (fun w hS => blk_range hS.2.1) Try.underlying33 rfl (Try.size33L xb)) held_wb ?_
      simp only [Act.put, List.setIfInBounds_toArray, List.set_cons_zero, List.set_cons_succ]
      refine wpAnyH_take (i := 11) (oi := ⟨some 66, Op.load 33 (Operand.tmp 10), 33, _, _, some (7, false)⟩) (v := .agg (opL xa).toArray) rfl (by kernel_rfl) (by kernel_rfl) (by kernel_rfl) (fun _ _ _ h => h) (yieldsIf_load_mid (by rfl) 33 (Operand.tmp 10) rfl g1 0 rfl (opL xa) _ (fun w hS => blk_range hS.1) Try.underlying33 rfl (Try.size33L xa)) held_wb ?_
      simp only [Act.put, List.setIfInBounds_toArray, List.set_cons_zero, List.set_cons_succ]
      refine wpAnyH_take (i := 12) (oi := ⟨some 67, Op.load 33 (Operand.tmp 11), 33, _, _, some (7, false)⟩) (v := .agg (opL xb).toArray) rfl (by kernel_rfl) (by kernel_rfl) (by kernel_rfl) (fun _ _ _ h => h) (yieldsIf_load_mid (by rfl) 33 (Operand.tmp 11) rfl g2 0 rfl (opL xb) _ (fun w hS => blk_range hS.2.1) Try.underlying33 rfl (Try.size33L xb)) held_wb ?_
      simp only [Act.put, List.setIfInBounds_toArray, List.set_cons_zero, List.set_cons_succ]
      refine wpAnyH_ready (rs := [10]) (by kernel_rfl) (by simp) ?_
      refine AllReadyH.cons (o := ⟨some 65, Op.call { callee := Callee.value (Operand.func 14), args := #[Operand.tmp 63, Operand.tmp 64], argTypes := #[33, 33] }, 4, _, _, some (7, false)⟩) rfl (fun K hK => ?_) AllReadyH.nil
      rw [if_pos (by rfl)]
      refine wp_callF 14 _ _ rfl Try.in14 #[.agg (opA xa), .agg (opA xb)] (by simp [Act.eval, rng_load]) (fun vz wz => vz = .bool (sm xa xb) ∧ Below w9.heap.size w9 wz) ?_ ?_
      · refine (same_any xa xb wb).mono ?_
        rintro e wz ⟨rfl, h⟩
        exact ⟨_, rfl, rfl, B_wb.out.trans (h.mono B_wb.out.size)⟩
      rintro vz wc ⟨rfl, h_wc⟩
      have B_wc := Keep.mk h_wc
      clear h_wc
      refine hK.out _ _ (HS9.out _ B_wc.out) fun held_wc => ?_
      clear hK
      simp only [Act.put, List.setIfInBounds_toArray, List.set_cons_zero, List.set_cons_succ]
      refine wpAnyH_ready (rs := [13]) (by kernel_rfl) (by simp) ?_
      refine AllReadyH.cons (o := ⟨some 68, Op.call { callee := Callee.value (Operand.func 15), args := #[Operand.tmp 66, Operand.tmp 67], argTypes := #[33, 33] }, 4, _, _, some (7, false)⟩) rfl (fun K hK => ?_) AllReadyH.nil
      rw [if_pos (by rfl)]
      refine wp_callF 15 _ _ rfl Try.in15 #[.agg (opA xa), .agg (opA xb)] (by simp [Act.eval, rng_load]) (fun vz wz => vz = .bool (sm xa xb) ∧ Below w9.heap.size w9 wz) ?_ ?_
      · refine (rsame_any xa xb wc).mono ?_
        rintro e wz ⟨rfl, h⟩
        exact ⟨_, rfl, rfl, B_wc.out.trans (h.mono B_wc.out.size)⟩
      rintro vz wd ⟨rfl, h_wd⟩
      have B_wd := Keep.mk h_wd
      clear h_wd
      refine hK.out _ _ (HS9.out _ B_wd.out) fun held_wd => ?_
      clear hK
      simp only [Act.put, List.setIfInBounds_toArray, List.set_cons_zero, List.set_cons_succ]
      refine wpAnyH_take (i := 14) (oi := ⟨some 69, Op.binOp BinOp.neq 4 (Operand.tmp 65) (Operand.tmp 68) 4, 4, _, _, some (7, false)⟩) (v := .bool false) rfl (by kernel_rfl) (by kernel_rfl) (by kernel_rfl) (fun _ _ _ h => h) (Or.inl ⟨by rfl, fun w hS => by obtain ⟨hs1, hs2, hs3⟩ := hS; go_simp⟩) held_wd ?_
      simp only [Act.put, List.setIfInBounds_toArray, List.set_cons_zero, List.set_cons_succ]
      refine wpAnyH_take (i := 15) (oi := ⟨some 70, Op.pick (Operand.tmp 62) (Operand.const (Value.bool true)) (Operand.tmp 69), 4, _, _, none⟩) (v := .bool false) rfl (by kernel_rfl) (by kernel_rfl) (by kernel_rfl) (fun _ _ _ h => h) (Or.inl ⟨by rfl, fun w hS => by obtain ⟨hs1, hs2, hs3⟩ := hS; go_simp⟩) held_wd ?_
      simp only [Act.put, List.setIfInBounds_toArray, List.set_cons_zero, List.set_cons_succ]
      refine wpAnyH_take (i := 16) (oi := ⟨some 71, Op.move (Operand.tmp 70), 4, _, _, none⟩) (v := .bool false) rfl (by kernel_rfl) (by kernel_rfl) (by kernel_rfl) (fun _ _ _ h => h) (Or.inl ⟨by rfl, fun w hS => by obtain ⟨hs1, hs2, hs3⟩ := hS; go_simp⟩) held_wd ?_
      simp only [Act.put, List.setIfInBounds_toArray, List.set_cons_zero, List.set_cons_succ]
      refine wpAnyH_take (i := 17) (oi := ⟨some 72, Op.load 33 (Operand.tmp 10), 33, _, _, some (16, false)⟩) (v := .agg (opL xa).toArray) rfl (by kernel_rfl) (by kernel_rfl) (by kernel_rfl) (fun _ _ _ h => h) (yieldsIf_load_mid (by rfl) 33 (Operand.tmp 10) rfl g1 0 rfl (opL xa) _ (fun w hS => blk_range hS.1) Try.underlying33 rfl (Try.size33L xa)) held_wd ?_
      simp only [Act.put, List.setIfInBounds_toArray, List.set_cons_zero, List.set_cons_succ]
      refine wpAnyH_take (i := 18) (oi := ⟨some 73, Op.load 33 (Operand.tmp 10), 33, _, _, some (16, false)⟩) (v := .agg (opL xa).toArray) rfl (by kernel_rfl) (by kernel_rfl) (by kernel_rfl) (fun _ _ _ h => h) (yieldsIf_load_mid (by rfl) 33 (Operand.tmp 10) rfl g1 0 rfl (opL xa) _ (fun w hS => blk_range hS.1) Try.underlying33 rfl (Try.size33L xa)) held_wd ?_
      simp only [Act.put, List.setIfInBounds_toArray, List.set_cons_zero, List.set_cons_succ]
      refine wpAnyH_ready (rs := [19]) (by kernel_rfl) (by simp) ?_
      refine AllReadyH.cons (o := ⟨some 74, Op.call { callee := Callee.value (Operand.func 14), args := #[Operand.tmp 72, Operand.tmp 73], argTypes := #[33, 33] }, 4, _, _, some (16, false)⟩) rfl (fun K hK => ?_) AllReadyH.nil
      rw [if_pos (by rfl)]
      refine wp_callF 14 _ _ rfl Try.in14 #[.agg (opA xa), .agg (opA xa)] (by simp [Act.eval, rng_load]) (fun vz wz => vz = .bool (sm xa xa) ∧ Below w9.heap.size w9 wz) ?_ ?_
      · refine (same_any xa xa wd).mono ?_
        rintro e wz ⟨rfl, h⟩
        exact ⟨_, rfl, rfl, B_wd.out.trans (h.mono B_wd.out.size)⟩
      rintro vz wg ⟨rfl, h_wg⟩
      have B_wg := Keep.mk h_wg
      clear h_wg
      refine hK.out _ _ (HS9.out _ B_wg.out) fun held_wg => ?_
      clear hK
      simp only [Act.put, List.setIfInBounds_toArray, List.set_cons_zero, List.set_cons_succ]
      refine wpAnyH_take (i := 20) (oi := ⟨some 75, Op.unOp UnOp.not 4 (Operand.tmp 74), 4, _, _, some (16, false)⟩) (v := .bool false) rfl (by kernel_rfl) (by kernel_rfl) (by kernel_rfl) (fun _ _ _ h => h) (Or.inl ⟨by rfl, fun w hS => by obtain ⟨hs1, hs2, hs3⟩ := hS; go_simp⟩) held_wg ?_
      simp only [Act.put, List.setIfInBounds_toArray, List.set_cons_zero, List.set_cons_succ]
      refine wpAnyH_take (i := 21) (oi := ⟨some 76, Op.pick (Operand.tmp 71) (Operand.const (Value.bool true)) (Operand.tmp 75), 4, _, _, none⟩) (v := .bool false) rfl (by kernel_rfl) (by kernel_rfl) (by kernel_rfl) (fun _ _ _ h => h) (Or.inl ⟨by rfl, fun w hS => by obtain ⟨hs1, hs2, hs3⟩ := hS; go_simp⟩) held_wg ?_
      simp only [Act.put, List.setIfInBounds_toArray, List.set_cons_zero, List.set_cons_succ]
      refine wpAnyH_done (by kernel_rfl) ?_ _
      refine hK13 _ _ ?_
      refine wp_cond_false rfl ?_
      refine wp_skip ?_
      refine hK12 _ _ ?_
      refine wp_seq_k fun K14 hK14 => ?_
      refine wp_region_list (WL.out ?_)
      have HAg := Keep.mk (HA.out.below B_wg.out HA.out.lt)
      have HBg := Keep.mk (HB9.out.below B_wg.out HB9.out.lt)
      refine WL.row (by kernel_rfl) 33 (.tmp 10) rfl g1 rfl 33 (opA xa) _ HAg.out Try.underlying33 rfl (Try.size33B xa) ?_
      simp only [Act.put, List.setIfInBounds_toArray, List.set_cons_zero, List.set_cons_succ]
      refine WL.storeR (by kernel_rfl) 33 (.tmp 11) (.tmp 77) rfl g2 (opA xa) rfl rfl 33 (opA xb) HBg.out (Try.size33B xa) (opA_sizes _ _) (opA_one xa) ?_
      have HAh := Keep.mk (HAg.out.setRow_ne (b' := g2) Hne.out (opA xa))
      have HBh := Keep.mk (HBg.out.setRow (opA xa))
      have HWh : Keep (Below wr.heap.size wr (wg.setRow g2 (opA xa))) := ⟨below_setRow (HW9.out.trans (B_wg.out.mono HW9.out.size)) Hl2.out _⟩
      generalize wg.setRow g2 (opA xa) = wh at *
      have c36 := HBh.out.c 36 (opA_36 xa)
      have f36 := HBh.out.frozen 36
      simp only [Act.put]
      refine WL.nil ?_
      refine hK14 _ _ ?_
      refine wp_seq_k fun K15 hK15 => ?_
      refine wp_region_list (WL.out ?_)
      refine WL.val (by kernel_rfl) (.pointer (some ⟨g2, 4, none⟩)) (by go_simp) ?_
      simp only [Act.put, List.setIfInBounds_toArray, List.set_cons_zero, List.set_cons_succ]
      refine WL.val (by kernel_rfl) (.pointer (some ⟨g2, 36, none⟩)) (by go_simp) ?_
      simp only [Act.put, List.setIfInBounds_toArray, List.set_cons_zero, List.set_cons_succ]
      refine WL.val (by kernel_rfl) (.int .i64 xa.op) (by go_simp) ?_
      simp only [Act.put, List.setIfInBounds_toArray, List.set_cons_zero, List.set_cons_succ]
      refine WL.val (by kernel_rfl) (.int .i64 (IntKind.i64.wrap (xa.op + 1))) (by go_simp) ?_
      simp only [Act.put, List.setIfInBounds_toArray, List.set_cons_zero, List.set_cons_succ]
      refine WL.val (by kernel_rfl) (.pointer (some ⟨g2, 4, none⟩)) (by go_simp) ?_
      simp only [Act.put, List.setIfInBounds_toArray, List.set_cons_zero, List.set_cons_succ]
      refine WL.val (by kernel_rfl) (.pointer (some ⟨g2, 36, none⟩)) (by go_simp) ?_
      simp only [Act.put, List.setIfInBounds_toArray, List.set_cons_zero, List.set_cons_succ]
      refine WL.cell (by kernel_rfl) (wh.setCell ⟨g2, 36, none⟩ (.int .i64 (IntKind.i64.wrap (xa.op + 1)))) (by go_simp) ?_
      have HAi := Keep.mk (HAh.out.set_ne (b' := g2) (j := 36) Hne.out (.int .i64 (IntKind.i64.wrap (xa.op + 1))))
      have HBi := Keep.mk (HBh.out.set 36 (.int .i64 (IntKind.i64.wrap (xa.op + 1))))
      rw [set_36] at HBi
      have HWi : Keep (Below wr.heap.size wr (wh.setCell ⟨g2, 36, none⟩ (.int .i64 (IntKind.i64.wrap (xa.op + 1))))) := ⟨HWh.out.setCell Hl2.out _⟩
      generalize wh.setCell ⟨g2, 36, none⟩ (.int .i64 (IntKind.i64.wrap (xa.op + 1))) = wi at *
      obtain ⟨xc, hxc⟩ : ∃ xc : OpV, Keep (xc = { xa with op := IntKind.i64.wrap (xa.op + 1) }) := ⟨_, ⟨rfl⟩⟩
      rw [← hxc.out] at HBi hsn
      clear c36 f36
      simp only [Act.put]
      refine WL.nil ?_
      refine hK15 _ _ ?_
      refine wp_seq_k fun K16 hK16 => ?_
      refine wp_region_list (WL.out ?_)
      refine WL.row (by kernel_rfl) 33 (.tmp 10) rfl g1 rfl 33 (opA xa) _ HAi.out Try.underlying33 rfl (Try.size33B xa) ?_
      simp only [Act.put, List.setIfInBounds_toArray, List.set_cons_zero, List.set_cons_succ]
      refine WL.row (by kernel_rfl) 33 (.tmp 11) rfl g2 rfl 33 (opA xc) _ HBi.out Try.underlying33 rfl (Try.size33B xc) ?_
      simp only [Act.put, List.setIfInBounds_toArray, List.set_cons_zero, List.set_cons_succ]
      refine WL.callF (by kernel_rfl) 14 _ _ rfl Try.in14 #[.agg (opA xa), .agg (opA xc)] (by simp [Act.eval]) ?_
      refine (same_any xa xc wi).mono ?_
      rintro e wj ⟨rfl, hj⟩
      rw [hsn]
      refine ⟨_, rfl, ?_⟩
      have HWj := Keep.mk (HWi.out.trans (hj.mono HWi.out.size))
      clear hj
      simp only [Act.put, List.setIfInBounds_toArray, List.set_cons_zero, List.set_cons_succ]
      refine WL.nil ?_
      refine hK16 _ _ ?_
      refine wp_cond_false rfl ?_
      refine wp_skip ?_
      refine hK10 _ _ ?_
      refine wp_region_list (WL.out ?_)
      refine WL.val (by kernel_rfl) (.int .i64 (t : Int)) (by go_simp) ?_
      simp only [Act.put, List.setIfInBounds_toArray, List.set_cons_zero, List.set_cons_succ]
      refine WL.val (by kernel_rfl) (.int .i64 ((t : Int) + 1)) (by go_simp) ?_
      simp only [Act.put, List.setIfInBounds_toArray, List.set_cons_zero, List.set_cons_succ]
      refine WL.val (by kernel_rfl) (.int .i64 ((t : Int) + 1)) (by go_simp) ?_
      simp only [Act.put, List.setIfInBounds_toArray, List.set_cons_zero, List.set_cons_succ]
      refine WL.nil ?_
      refine ⟨⟨t + 1, u4, .pointer (some ⟨g1, 0, none⟩), .pointer (some ⟨g2, 0, none⟩), .int .i64 (t : Int), .slice va l.length vc, .int .i64 (l.length : Int), .bool true, .int .i64 (t : Int), .int .i64 ((t : Int) + 1), .slice va l.length vc, .int .i64 (t : Int), .pointer (some ⟨gL, ofL + t * 37, none⟩), .agg (opL xa).toArray, .slice va l.length vc, .slice va l.length vc, .int .i64 (l.length : Int), .int .i64 ((l.length : Int) - 1), .int .i64 (t : Int), .int .i64 (tb : Int), .pointer (some ⟨gL, ofL + tb * 37, none⟩), .agg (opL xb).toArray, .pointer (some ⟨g1, 0, none⟩), .int .i64 xa.kind, .int .i64 (cellV xa.kind), .pointer (some ⟨g1, 0, none⟩), .int .i64 xa.kind, .int .i64 (cellV xa.kind), .bool false, .bool false, .agg (opL xa).toArray, .agg (opL xb).toArray, .bool (sm xa xb), .agg (opL xa).toArray, .agg (opL xb).toArray, .bool (sm xa xb), .bool false, .bool false, .bool false, .agg (opL xa).toArray, .agg (opL xa).toArray, .bool (sm xa xa), .bool false, .bool false, .agg (opA xa), .pointer (some ⟨g2, 4, none⟩), .pointer (some ⟨g2, 36, none⟩), .int .i64 xa.op, .int .i64 (IntKind.i64.wrap (xa.op + 1)), .pointer (some ⟨g2, 4, none⟩), .pointer (some ⟨g2, 36, none⟩), .agg (opA xa), .agg (opA xc), .bool false, rfl, by omega, HBl.out.trans (HWj.out.mono HBl.out.size)⟩, ?_⟩
      simp only [intOf]; show l.length - ((t : Int) + 1).toNat < l.length - ((t : Int)).toNat; omega
    have HRest := Keep.mk rest
    clear rest
    have hD0 : Below wr.heap.size wr wr.drew := (Below.refl _ _).drew
    refine wp_region_held_drew (S := fun wx => wx.rangeAt gL (ofL + t * 37) (opL xa) ∧ wx.rangeAt gL (ofL + tb * 37) (opL xb)) (by kernel_rfl) (HSa.out _ hD0) (fun hHeld => ?_)
    refine wpAnyH_take (i := 0) (oi := ⟨some 43, Op.move (Operand.tmp 0), 23, _, _, none⟩) (v := .slice va l.length vc) rfl (by kernel_rfl) (by kernel_rfl) (by kernel_rfl) (fun _ _ _ h => h) (Or.inl ⟨by rfl, fun w hS => by go_simp⟩) hHeld ?_
    simp only [Act.put, List.setIfInBounds_toArray, List.set_cons_zero, List.set_cons_succ]
    refine wpAnyH_take (i := 1) (oi := ⟨some 44, Op.move (Operand.tmp 9), 3, _, _, none⟩) (v := .int .i64 (t : Int)) rfl (by kernel_rfl) (by kernel_rfl) (by kernel_rfl) (fun _ _ _ h => h) (Or.inl ⟨by rfl, fun w hS => by go_simp⟩) hHeld ?_
    simp only [Act.put, List.setIfInBounds_toArray, List.set_cons_zero, List.set_cons_succ]
    refine wpAnyH_take (i := 2) (oi := ⟨some 45, Op.indexAddr 23 (Operand.tmp 43) (Operand.tmp 44), 0, _, _, none⟩) (v := .pointer (some ⟨gL, ofL + t * 37, none⟩)) rfl (by kernel_rfl) (by kernel_rfl) (by kernel_rfl) (fun _ _ _ h => h) (Or.inl ⟨by rfl, fun w hS => by go_simp⟩) hHeld ?_
    simp only [Act.put, List.setIfInBounds_toArray, List.set_cons_zero, List.set_cons_succ]
    refine wpAnyH_take (i := 3) (oi := ⟨some 46, Op.load 33 (Operand.tmp 45), 33, _, _, none⟩) (v := .agg (opL xa).toArray) rfl (by kernel_rfl) (by kernel_rfl) (by kernel_rfl) (fun _ _ _ h => h) (yieldsIf_load_mid (by rfl) 33 (Operand.tmp 45) rfl gL (ofL + t * 37) rfl (opL xa) _ (fun w hS => hS.1) Try.underlying33 rfl (Try.size33L xa)) hHeld ?_
    simp only [Act.put, List.setIfInBounds_toArray, List.set_cons_zero, List.set_cons_succ]
    refine wpAnyH_take (i := 4) (oi := ⟨some 47, Op.move (Operand.tmp 0), 23, _, _, none⟩) (v := .slice va l.length vc) rfl (by kernel_rfl) (by kernel_rfl) (by kernel_rfl) (fun _ _ _ h => h) (Or.inl ⟨by rfl, fun w hS => by go_simp⟩) hHeld ?_
    simp only [Act.put, List.setIfInBounds_toArray, List.set_cons_zero, List.set_cons_succ]
    refine wpAnyH_take (i := 5) (oi := ⟨some 48, Op.move (Operand.tmp 0), 23, _, _, none⟩) (v := .slice va l.length vc) rfl (by kernel_rfl) (by kernel_rfl) (by kernel_rfl) (fun _ _ _ h => h) (Or.inl ⟨by rfl, fun w hS => by go_simp⟩) hHeld ?_
    simp only [Act.put, List.setIfInBounds_toArray, List.set_cons_zero, List.set_cons_succ]
    refine wpAnyH_take (i := 6) (oi := ⟨some 49, Op.call { callee := Callee.builtin Builtin.len, args := #[Operand.tmp 48], argTypes := #[23] }, 3, _, _, none⟩) (v := .int .i64 (l.length : Int)) rfl (by kernel_rfl) (by kernel_rfl) (by kernel_rfl) (fun _ _ _ h => h) (Or.inl ⟨by rfl, fun w hS => by go_simp⟩) hHeld ?_
    simp only [Act.put, List.setIfInBounds_toArray, List.set_cons_zero, List.set_cons_succ]
    refine wpAnyH_take (i := 7) (oi := ⟨some 50, Op.binOp BinOp.sub 3 (Operand.tmp 49) (Operand.const (Value.int IntKind.i64 1)) 3, 3, _, _, none⟩) (v := .int .i64 ((l.length : Int) - 1)) rfl (by kernel_rfl) (by kernel_rfl) (by kernel_rfl) (fun _ _ _ h => h) (Or.inl ⟨by rfl, fun w hS => by go_simp⟩) hHeld ?_
    simp only [Act.put, List.setIfInBounds_toArray, List.set_cons_zero, List.set_cons_succ]
    refine wpAnyH_take (i := 8) (oi := ⟨some 51, Op.move (Operand.tmp 9), 3, _, _, none⟩) (v := .int .i64 (t : Int)) rfl (by kernel_rfl) (by kernel_rfl) (by kernel_rfl) (fun _ _ _ h => h) (Or.inl ⟨by rfl, fun w hS => by go_simp⟩) hHeld ?_
    simp only [Act.put, List.setIfInBounds_toArray, List.set_cons_zero, List.set_cons_succ]
    refine wpAnyH_take (i := 9) (oi := ⟨some 52, Op.binOp BinOp.sub 3 (Operand.tmp 50) (Operand.tmp 51) 3, 3, _, _, none⟩) (v := .int .i64 (tb : Int)) rfl (by kernel_rfl) (by kernel_rfl) (by kernel_rfl) (fun _ _ _ h => h) (Or.inl ⟨by rfl, fun w hS => by go_simp⟩) hHeld ?_
    simp only [Act.put, List.setIfInBounds_toArray, List.set_cons_zero, List.set_cons_succ]
    refine wpAnyH_take (i := 10) (oi := ⟨some 53, Op.indexAddr 23 (Operand.tmp 47) (Operand.tmp 52), 0, _, _, none⟩) (v := .pointer (some ⟨gL, ofL + tb * 37, none⟩)) rfl (by kernel_rfl) (by kernel_rfl) (by kernel_rfl) (fun _ _ _ h => h) (Or.inl ⟨by rfl, fun w hS => by go_simp⟩) hHeld ?_
    simp only [Act.put, List.setIfInBounds_toArray, List.set_cons_zero, List.set_cons_succ]
    refine wpAnyH_take (i := 11) (oi := ⟨some 54, Op.load 33 (Operand.tmp 53), 33, _, _, none⟩) (v := .agg (opL xb).toArray) rfl (by kernel_rfl) (by kernel_rfl) (by kernel_rfl) (fun _ _ _ h => h) (yieldsIf_load_mid (by rfl) 33 (Operand.tmp 53) rfl gL (ofL + tb * 37) rfl (opL xb) _ (fun w hS => hS.2) Try.underlying33 rfl (Try.size33L xb)) hHeld ?_
    simp only [Act.put, List.setIfInBounds_toArray, List.set_cons_zero, List.set_cons_succ]
    refine wpAnyH_ready (rs := [12, 13]) (by kernel_rfl) (by simp) ?_
    refine AllReadyH.cons (o := ⟨some 10, Op.alloc 33, 0, _, _, none⟩) rfl (fun K hK => ?_) (AllReadyH.cons (o := ⟨some 11, Op.alloc 33, 0, _, _, none⟩) rfl (fun K hK => ?_) AllReadyH.nil)
    all_goals rw [if_pos (by rfl)]
    · obtain ⟨g, hg⟩ : ∃ g, Keep (g = wr.heap.size) := ⟨_, ⟨rfl⟩⟩
      refine wp_newA 33 rfl _ Try.new33 ?_
      refine hK.out _ _ (HSa.out _ (hD0.trans ((below_new wr.drew _).mono (Nat.le_refl _)))) fun hH2 => ?_
      clear hK
      simp only [Act.put, List.setIfInBounds_toArray, List.set_cons_zero, List.set_cons_succ]
      refine wpAnyH_ready (rs := [13]) (by kernel_rfl) (by simp) ?_
      refine AllReadyH.cons (o := ⟨some 11, Op.alloc 33, 0, _, _, none⟩) rfl (fun K hK => ?_) AllReadyH.nil
      rw [if_pos (by rfl)]
      refine wp_newA 33 rfl _ Try.new33 ?_
      have hB2 : Below wr.heap.size wr ((wr.drew.alloc (.cells (opA zeroOp) 33)).alloc (.cells (opA zeroOp) 33)) := hD0.trans (((below_new wr.drew _).alloc (by simp) _).mono (Nat.le_refl _))
      refine hK.out _ _ (HSa.out _ hB2) fun hH3 => ?_
      clear hK
      simp only [Act.put, List.setIfInBounds_toArray, List.set_cons_zero, List.set_cons_succ]
      have b1 : Blk ((wr.drew.alloc (.cells (opA zeroOp) 33)).alloc (.cells (opA zeroOp) 33)) g 33 (opA zeroOp) := by rw [hg.out]; exact (Blk.new wr.drew 33 _).alloc _
      have b2 : Blk ((wr.drew.alloc (.cells (opA zeroOp) 33)).alloc (.cells (opA zeroOp) 33)) (g + 1) 33 (opA zeroOp) := by rw [hg.out]; have h := Blk.new (wr.drew.alloc (.cells (opA zeroOp) 33)) 33 (opA zeroOp); simp only [World.size_alloc] at h; exact h
      have hs2 : (wr.drew.alloc (.cells (opA zeroOp) 33)).heap.size = g + 1 := by rw [hg.out]; simp
      rw [hs2, show wr.drew.heap.size = g from hg.out.symm]
      generalize (wr.drew.alloc (.cells (opA zeroOp) 33)).alloc (.cells (opA zeroOp) 33) = w6 at *
      clear hs2
      refine wpAnyH_ready (rs := [14]) (by kernel_rfl) (by simp) ?_
      refine AllReadyH.cons (o := ⟨none, Op.store 33 (Operand.tmp 10) (Operand.tmp 46), 0, _, _, none⟩) rfl (fun K hK => ?_) AllReadyH.nil
      rw [if_pos (by rfl)]
      refine wp_store_row 33 (.tmp 10) (.tmp 46) rfl (g) (opA xa) rfl rfl 33 (opA zeroOp) b1 (Try.size33B xa) (opA_sizes _ _) (opA_one xa) ?_
      refine hK.out _ _ (HSa.out _ (below_setRow hB2 (by rw [← hg.out]; omega) _)) fun hH4 => ?_
      clear hK
      simp only [Act.put]
      refine wpAnyH_ready (rs := [15]) (by kernel_rfl) (by simp) ?_
      refine AllReadyH.cons (o := ⟨none, Op.store 33 (Operand.tmp 11) (Operand.tmp 54), 0, _, _, none⟩) rfl (fun K hK => ?_) AllReadyH.nil
      rw [if_pos (by rfl)]
      refine wp_store_row 33 (.tmp 11) (.tmp 54) rfl (g + 1) (opA xb) rfl rfl 33 (opA zeroOp) (b2.setRow_ne (by omega) _) (Try.size33B xb) (opA_sizes _ _) (opA_one xb) ?_
      have hB4 := below_setRow (below_setRow hB2 (b := g) (by rw [← hg.out]; omega) (opA xa)) (b := g + 1) (by rw [← hg.out]; omega) (opA xb)
      refine hK.out _ _ (HSa.out _ hB4) fun hH5 => ?_
      clear hK
      simp only [Act.put]
      refine wpAnyH_done (by kernel_rfl) ?_ _
      exact HRest.out (g) (g + 1) _ (by omega) ((b1.setRow _).setRow_ne (by omega) _) ((b2.setRow_ne (by omega) _).setRow _) (by rw [← hg.out]; omega) (by rw [← hg.out]; omega) hB4
    · obtain ⟨g, hg⟩ : ∃ g, Keep (g = wr.heap.size) := ⟨_, ⟨rfl⟩⟩
      refine wp_newA 33 rfl _ Try.new33 ?_
      refine hK.out _ _ (HSa.out _ (hD0.trans ((below_new wr.drew _).mono (Nat.le_refl _)))) fun hH2 => ?_
      clear hK
      simp only [Act.put, List.setIfInBounds_toArray, List.set_cons_zero, List.set_cons_succ]
      refine wpAnyH_ready (rs := [12]) (by kernel_rfl) (by simp) ?_
      refine AllReadyH.cons (o := ⟨some 10, Op.alloc 33, 0, _, _, none⟩) rfl (fun K hK => ?_) AllReadyH.nil
      rw [if_pos (by rfl)]
      refine wp_newA 33 rfl _ Try.new33 ?_
      have hB2 : Below wr.heap.size wr ((wr.drew.alloc (.cells (opA zeroOp) 33)).alloc (.cells (opA zeroOp) 33)) := hD0.trans (((below_new wr.drew _).alloc (by simp) _).mono (Nat.le_refl _))
      refine hK.out _ _ (HSa.out _ hB2) fun hH3 => ?_
      clear hK
      simp only [Act.put, List.setIfInBounds_toArray, List.set_cons_zero, List.set_cons_succ]
      have b1 : Blk ((wr.drew.alloc (.cells (opA zeroOp) 33)).alloc (.cells (opA zeroOp) 33)) g 33 (opA zeroOp) := by rw [hg.out]; exact (Blk.new wr.drew 33 _).alloc _
      have b2 : Blk ((wr.drew.alloc (.cells (opA zeroOp) 33)).alloc (.cells (opA zeroOp) 33)) (g + 1) 33 (opA zeroOp) := by rw [hg.out]; have h := Blk.new (wr.drew.alloc (.cells (opA zeroOp) 33)) 33 (opA zeroOp); simp only [World.size_alloc] at h; exact h
      have hs2 : (wr.drew.alloc (.cells (opA zeroOp) 33)).heap.size = g + 1 := by rw [hg.out]; simp
      rw [hs2, show wr.drew.heap.size = g from hg.out.symm]
      generalize (wr.drew.alloc (.cells (opA zeroOp) 33)).alloc (.cells (opA zeroOp) 33) = w6 at *
      clear hs2
      refine wpAnyH_ready (rs := [14]) (by kernel_rfl) (by simp) ?_
      refine AllReadyH.cons (o := ⟨none, Op.store 33 (Operand.tmp 10) (Operand.tmp 46), 0, _, _, none⟩) rfl (fun K hK => ?_) AllReadyH.nil
      rw [if_pos (by rfl)]
      refine wp_store_row 33 (.tmp 10) (.tmp 46) rfl (g + 1) (opA xa) rfl rfl 33 (opA zeroOp) b2 (Try.size33B xa) (opA_sizes _ _) (opA_one xa) ?_
      refine hK.out _ _ (HSa.out _ (below_setRow hB2 (by rw [← hg.out]; omega) _)) fun hH4 => ?_
      clear hK
      simp only [Act.put]
      refine wpAnyH_ready (rs := [15]) (by kernel_rfl) (by simp) ?_
      refine AllReadyH.cons (o := ⟨none, Op.store 33 (Operand.tmp 11) (Operand.tmp 54), 0, _, _, none⟩) rfl (fun K hK => ?_) AllReadyH.nil
      rw [if_pos (by rfl)]
      refine wp_store_row 33 (.tmp 11) (.tmp 54) rfl (g) (opA xb) rfl rfl 33 (opA zeroOp) (b1.setRow_ne (by omega) _) (Try.size33B xb) (opA_sizes _ _) (opA_one xb) ?_
      have hB4 := below_setRow (below_setRow hB2 (b := g + 1) (by rw [← hg.out]; omega) (opA xa)) (b := g) (by rw [← hg.out]; omega) (opA xb)
      refine hK.out _ _ (HSa.out _ hB4) fun hH5 => ?_
      clear hK
      simp only [Act.put]
      refine wpAnyH_done (by kernel_rfl) ?_ _
      exact HRest.out (g + 1) (g) _ (by omega) ((b2.setRow _).setRow_ne (by omega) _) ((b1.setRow_ne (by omega) _).setRow _) (by rw [← hg.out]; omega) (by rw [← hg.out]; omega) hB4
  · have hte : Keep (t = l.length) := ⟨by omega⟩
    have htl' : ¬ (t : Int) < (l.length : Int) := by omega
    refine wp_seq_k fun K17 hK17 => ?_
    refine wp_seq_k fun K18 hK18 => ?_
    refine wp_region_list (WL.out ?_)
    refine WL.val (by kernel_rfl) (.int .i64 (t : Int)) (by go_simp) ?_
    simp only [Act.put, List.setIfInBounds_toArray, List.set_cons_zero, List.set_cons_succ]
    refine WL.val (by kernel_rfl) (.slice va l.length vc) (by go_simp) ?_
    simp only [Act.put, List.setIfInBounds_toArray, List.set_cons_zero, List.set_cons_succ]
    refine WL.val (by kernel_rfl) (.int .i64 (l.length : Int)) (by go_simp) ?_
    simp only [Act.put, List.setIfInBounds_toArray, List.set_cons_zero, List.set_cons_succ]
    refine WL.val (by kernel_rfl) (.bool false) (by go_simp) ?_
    simp only [Act.put, List.setIfInBounds_toArray, List.set_cons_zero, List.set_cons_succ]
    refine WL.nil ?_
    refine hK18 _ _ ?_
    refine wp_cond_false rfl ?_
    refine wp_exit ?_
    refine hK6 _ _ ?_
    refine wp_seq_k fun K19 hK19 => ?_
    refine wp_region_list (WL.out ?_)
    refine WL.callF (by kernel_rfl) 9 _ _ rfl Try.in9 #[] (by simp) ?_
    refine (fixed_any wr).mono ?_
    rintro e w5 ⟨rfl, h5⟩
    refine ⟨_, rfl, ?_⟩
    simp only [Act.put, List.setIfInBounds_toArray, List.set_cons_zero, List.set_cons_succ]
    refine WL.val (by kernel_rfl) (.bool true) (by go_simp) ?_
    simp only [Act.put, List.setIfInBounds_toArray, List.set_cons_zero, List.set_cons_succ]
    refine WL.nil ?_
    refine hK19 _ _ ?_
    refine wp_ret ?_
    go_ret
    exact ⟨rfl, hB.trans (h5.mono hB.size)⟩

end Go.Proofs.Ytbkboebinhafhaa
