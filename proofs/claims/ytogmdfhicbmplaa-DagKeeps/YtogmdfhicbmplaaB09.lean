import Derived.Test.YtogmdfhicbmplaaB08
import Derived.Test.YtogmdfhicbmplaaB05
namespace Go.Proofs.Ytogmdfhicbmplaa
open Go.RowKit
set_option linter.unusedSimpArgs false
set_option linter.unusedVariables false

theorem Try.in50 (w : World) (vs : Array Value) : (callFunc 50 vs).run Try.prog w = .ok (.enter 50 vs) w := by kernel_rfl
theorem Try.in77 (w : World) (vs : Array Value) : (callFunc 77 vs).run Try.prog w = .ok (.enter 77 vs) w := by kernel_rfl
/-- The ones that are missing, of some vertices that wait. -/
def misP (g : DG) (x : Hs) : Bool := !hasB g.held x && !hasB g.wait x
def misL (g : DG) (l : List VX) : List Hs := (l.flatMap (·.ps)).filter (misP g)
theorem misL_app (g : DG) (l : List VX) (v : VX) : misL g (l ++ [v]) = misL g l ++ v.ps.filter (misP g) := by unfold misL; rw [List.flatMap_append, List.filter_append]; simp
theorem fld_ps (c : Nat → Int) (k : Int) (a : Option Addr) (n m : Nat) (w : World) : (Instr.field 39 (.agg (vtx c k (.slice a n m))) 2).run Try.prog w = .ok (.slice a n m) w := by kernel_rfl
set_option maxRecDepth 8000 in
set_option maxHeartbeats 1000000 in
theorem missing_any (B0 d : Nat) (g : DG) (w : World) (hD : DS B0 w d g) : Calls Try.prog 50 #[ptr d] w fun e w' => ∃ v' L', e = .returned v' ∧ Fresh w w' v' L' ∧ L'.Pairwise Lt ∧ (∀ x, x ∈ L' ↔ x ∈ misL g g.wait) ∧ L'.length ≤ 4096 := by
  have HD := Keep.mk hD
  obtain ⟨qa, qc, hqv⟩ := hD.at'.oq.sl
  have Hqv := Keep.mk hqv
  clear hD hqv
  go_enter Try.func50, Try.ntmps50
  refine wp_seq_k fun K1 hK1 => ?_
  refine wp_region_list (WL.out ?_)
  refine WL.val (by kernel_rfl) (.slice none 0 0) (by go_simp) ?_
  simp only [Act.put, List.setIfInBounds_toArray, List.set_cons_zero, List.set_cons_succ]
  refine WL.nil ?_
  refine hK1 _ _ ?_
  refine wp_seq_k fun K2 hK2 => ?_
  refine wp_region_list (WL.out ?_)
  refine WL.val (by kernel_rfl) (.slice none 0 0) (by go_simp) ?_
  simp only [Act.put, List.setIfInBounds_toArray, List.set_cons_zero, List.set_cons_succ]
  refine WL.nil ?_
  refine hK2 _ _ ?_
  refine wp_seq_k fun K3 hK3 => ?_
  refine wp_seq_k fun K4 hK4 => ?_
  have c5 : w.cell? ⟨d, 5, none⟩ = some (.slice qa g.queue.length qc) := by have h := HD.out.at'.blk.c 5 (by rfl : (dgA g)[5]? = some g.qv); rw [Hqv.out] at h; exact h
  refine wp_region_list (WL.out ?_)
  refine WL.val (by kernel_rfl) (.pointer (some ⟨d, 0, none⟩)) (by go_simp) ?_
  simp only [Act.put, List.setIfInBounds_toArray, List.set_cons_zero, List.set_cons_succ]
  refine WL.val (by kernel_rfl) (.pointer (some ⟨d, 0, none⟩)) (by go_simp) ?_
  simp only [Act.put, List.setIfInBounds_toArray, List.set_cons_zero, List.set_cons_succ]
  refine WL.val (by kernel_rfl) (.pointer (some ⟨d, 5, none⟩)) (by go_simp) ?_
  simp only [Act.put, List.setIfInBounds_toArray, List.set_cons_zero, List.set_cons_succ]
  refine WL.val (by kernel_rfl) (.slice qa g.queue.length qc) (by go_simp) ?_
  simp only [Act.put, List.setIfInBounds_toArray, List.set_cons_zero, List.set_cons_succ]
  refine WL.val (by kernel_rfl) (.int .i64 (g.queue.length : Int)) (by go_simp) ?_
  simp only [Act.put, List.setIfInBounds_toArray, List.set_cons_zero, List.set_cons_succ]
  refine WL.val (by kernel_rfl) (.int .i64 0) (by go_simp) ?_
  simp only [Act.put, List.setIfInBounds_toArray, List.set_cons_zero, List.set_cons_succ]
  refine WL.nil ?_
  refine hK4 _ _ ?_
  refine wp_block ?_
  refine wp_loop (fun ac wr => ∃ (t : Nat) (u3 u5 u7 u14 u15 u16 u17 u18 u19 u20 u21 u22 u23 u24 u25 u26 u27 u28 u29 u30 u31 u32 u33 u34 u35 u36 u37 u38 u39 u40 u41 u42 u43 u44 : Value), ac = { tmps := #[.pointer (some ⟨d, 0, none⟩), undef, .slice none 0 0, u3, undef, u5, undef, u7, .pointer (some ⟨d, 0, none⟩), .pointer (some ⟨d, 0, none⟩), .pointer (some ⟨d, 5, none⟩), .slice qa g.queue.length qc, .int .i64 (g.queue.length : Int), .int .i64 (t : Int), u14, u15, u16, u17, u18, u19, u20, u21, u22, u23, u24, u25, u26, u27, u28, u29, u30, u31, u32, u33, u34, u35, u36, u37, u38, u39, u40, u41, u42, u43, u44, undef, undef], defers := [] } ∧ t ≤ g.queue.length ∧ Below w.heap.size w wr ∧ OwnH wr u3 (misL g (g.wait.take t)) ∧ (∀ i, u3.ownBlock = some i → w.heap.size ≤ i) ∧ (misL g (g.wait.take t)).length ≤ 64 * t) (fun a _ => g.queue.length - (intOf (a.tmps.getD 13 undef)).toNat) ⟨0, .slice none 0 0, undef, undef, undef, undef, undef, undef, undef, undef, undef, undef, undef, undef, undef, undef, undef, undef, undef, undef, undef, undef, undef, undef, undef, undef, undef, undef, undef, undef, undef, undef, undef, undef, undef, rfl, by omega, Below.refl _ _, ownH_nil _, (fun i hi => by cases hi), Nat.le_refl _⟩ ?_
  rintro ac wr ⟨t, u3, u5, u7, u14, u15, u16, u17, u18, u19, u20, u21, u22, u23, u24, u25, u26, u27, u28, u29, u30, u31, u32, u33, u34, u35, u36, u37, u38, u39, u40, u41, u42, u43, u44, rfl, ht, hB, hO, hN, hC⟩
  have JB := Keep.mk hB
  have JO := Keep.mk hO
  have JN := Keep.mk hN
  have JC := Keep.mk hC
  clear hB hO hN hC
  have HDr := Keep.mk (HD.out.below JB.out)
  by_cases htl : t < g.queue.length
  · have htl' : (t : Int) < (g.queue.length : Int) := by omega
    have hwt : IntKind.i64.wrap ((t : Int) + 1) = ((t + 1 : Nat) : Int) := by rw [IntKind.wrap_i64]; have := HD.out.di.qlen; have := HD.out.di.wl; omega
    have htw : t < g.wait.length := by rw [← HD.out.di.qlen]; exact htl
    obtain ⟨v, hv⟩ : ∃ v, Keep (v = g.wait[t]) := ⟨_, ⟨rfl⟩⟩
    have hvm : v ∈ g.wait := by rw [hv.out]; exact List.getElem_mem htw
    obtain ⟨gp, op, hpa, -, -, hrg⟩ := (Hqv.out ▸ HDr.out.at'.oq.row : HRow wr (.slice qa g.queue.length qc) g.queue).at (by omega)
    have hel := rangeAt_elem hrg t htl
    have hqi : g.queue[t] = v.id := by rw [hv.out]; simp [HD.out.di.q]
    rw [hqi] at hel
    have Hel := Keep.mk hel
    have HF := Keep.mk (find_mem HD.out.di.wn hvm)
    have HVl := Keep.mk (chk_ok (HD.out.di.wc v hvm)).1
    subst hpa
    clear hel hrg hqi
    refine wp_seq_k fun K5 hK5 => ?_
    refine wp_region_list (WL.out ?_)
    refine WL.val (by kernel_rfl) (.bool true) (by go_simp) ?_
    simp only [Act.put, List.setIfInBounds_toArray, List.set_cons_zero, List.set_cons_succ]
    refine WL.nil ?_
    refine hK5 _ _ ?_
    refine wp_seq_k fun K6 hK6 => ?_
    refine wp_cond_true rfl ?_
    refine wp_skip ?_
    refine hK6 _ _ ?_
    refine wp_seq_k fun K7 hK7 => ?_
    refine wp_block ?_
    refine wp_seq_k fun K8 hK8 => ?_
    refine wp_region_list (WL.out ?_)
    refine WL.val (by kernel_rfl) (.pointer (some ⟨gp, op + t * 32, none⟩)) (by go_simp) ?_
    simp only [Act.put, List.setIfInBounds_toArray, List.set_cons_zero, List.set_cons_succ]
    refine WL.mid (by kernel_rfl) 36 (.tmp 15) rfl gp (op + t * 32) rfl (encH v.id) _ Hel.out Try.underlying36 rfl (Try.size36L v.id) ?_
    rw [enc_load]
    simp only [Act.put, List.setIfInBounds_toArray, List.set_cons_zero, List.set_cons_succ]
    refine WL.new (by kernel_rfl) 36 rfl _ Try.new36 ?_
    simp only [Act.put, List.setIfInBounds_toArray, List.set_cons_zero, List.set_cons_succ]
    refine WL.storeR (by kernel_rfl) 36 (.tmp 5) (.tmp 16) rfl wr.heap.size (bytesA 32 v.id.f) rfl rfl 36 (bytesA 32 fun _ => 0) (Blk.new wr 36 _) (Try.size36B _) (bytesA_sizes _ _ _) (bytesA_one _ _) ?_
    have HX2 := Keep.mk ((Blk.new wr 36 (bytesA 32 fun _ => 0)).setRow (bytesA 32 v.id.f))
    have B2 : Keep (Below wr.heap.size wr ((wr.alloc (.cells (bytesA 32 fun _ => 0) 36)).setRow wr.heap.size (bytesA 32 v.id.f))) := ⟨below_setRow (below_new wr _) (Nat.le_refl _) _⟩
    generalize (wr.alloc (.cells (bytesA 32 fun _ => 0) 36)).setRow wr.heap.size (bytesA 32 v.id.f) = w2 at *
    have HD2 := Keep.mk (HDr.out.below B2.out)
    have JB2 : Keep (Below w.heap.size w w2) := ⟨belowT JB.out B2.out⟩
    have JO2 := Keep.mk (JO.out.below B2.out)
    have Nb : Keep (∀ k, u3.ownBlock = some k → k ≠ wr.heap.size) := ⟨fun k hk e => by have := JO.out.lt k hk; omega⟩
    have Hlo : Keep (w.heap.size ≤ wr.heap.size) := ⟨JB.out.size⟩
    generalize wr.heap.size = bb at *
    clear Hel
    simp only [Act.put]
    refine WL.nil ?_
    refine hK8 _ _ ?_
    refine wp_seq_k fun K9 hK9 => ?_
    obtain ⟨es, ck, c0, k0, pa, pn, pm, hes, hl1, hl2, hcs⟩ := look1 HD.out.at'.wait v.id
    have HC : Keep (HRow w (.slice pa pn pm) v.ps) := ⟨hcs.elim (fun h => absurd (HF.out.symm.trans h.1) (by simp)) fun ⟨v', h, h2, h3, h4, _⟩ => by cases Option.some.inj (HF.out.symm.trans h); exact h4⟩
    have hpn : pn = v.ps.length := by obtain ⟨a', c', e⟩ := HC.out.form; injection e
    subst hpn
    obtain ⟨vv, hvv⟩ : ∃ a : Array Value, Keep (a = vtx c0 k0 (.slice pa v.ps.length pm)) := ⟨_, ⟨rfl⟩⟩
    rw [← hvv.out] at hl2
    have H1 := Keep.mk hl2
    have hS0 : Keep ((fun wx => wx.cell? ⟨d, 4, none⟩ = some (.map (some g.wb)) ∧ wx.rangeAt bb 0 (bytesA 32 v.id.f).toList ∧ wx.heap[g.wb]? = some (.map es ck)) w2.drew) := ⟨⟨HD2.out.at'.blk.drew.c 4 rfl, blk_rng HX2.out.drew, by show w2.heap[g.wb]? = _; rw [JB2.out.block _ (Array.getElem?_eq_some_iff.1 hes).1]; exact hes⟩⟩
    clear hl1 hl2 hcs hes
    refine wp_region_held_drew (S := fun wx => wx.cell? ⟨d, 4, none⟩ = some (.map (some g.wb)) ∧ wx.rangeAt bb 0 (bytesA 32 v.id.f).toList ∧ wx.heap[g.wb]? = some (.map es ck)) (by kernel_rfl) (hS0.out) (fun hHeld => ?_)
    refine wpAnyH_take (i := 0) (oi := ⟨some 17, Op.move (Operand.tmp 0), 27, _, _, none⟩) (v := .pointer (some ⟨d, 0, none⟩)) rfl (by kernel_rfl) (by kernel_rfl) (by kernel_rfl) (fun _ _ _ h => h) (Or.inl ⟨by rfl, fun w hS => by obtain ⟨hS1, hS2, hS3⟩ := hS; go_simp⟩) hHeld ?_
    simp only [Act.put, List.setIfInBounds_toArray, List.set_cons_zero, List.set_cons_succ]
    refine wpAnyH_take (i := 1) (oi := ⟨some 18, Op.nilCheck (Operand.tmp 17), 0, _, _, none⟩) (v := .pointer (some ⟨d, 0, none⟩)) rfl (by kernel_rfl) (by kernel_rfl) (by kernel_rfl) (fun _ _ _ h => h) (Or.inl ⟨by rfl, fun w hS => by obtain ⟨hS1, hS2, hS3⟩ := hS; go_simp⟩) hHeld ?_
    simp only [Act.put, List.setIfInBounds_toArray, List.set_cons_zero, List.set_cons_succ]
    refine wpAnyH_take (i := 2) (oi := ⟨some 19, Op.fieldAddr 77 (Operand.tmp 18) 4, 0, _, _, none⟩) (v := .pointer (some ⟨d, 4, none⟩)) rfl (by kernel_rfl) (by kernel_rfl) (by kernel_rfl) (fun _ _ _ h => h) (Or.inl ⟨by rfl, fun w hS => by obtain ⟨hS1, hS2, hS3⟩ := hS; go_simp⟩) hHeld ?_
    simp only [Act.put, List.setIfInBounds_toArray, List.set_cons_zero, List.set_cons_succ]
    refine wpAnyH_take (i := 3) (oi := ⟨some 20, Op.load 75 (Operand.tmp 19), 75, _, _, none⟩) (v := .map (some g.wb)) rfl (by kernel_rfl) (by kernel_rfl) (by kernel_rfl) (fun _ _ _ h => h) (Or.inl ⟨by rfl, fun w hS => by obtain ⟨hS1, hS2, hS3⟩ := hS; go_simp⟩) hHeld ?_
    simp only [Act.put, List.setIfInBounds_toArray, List.set_cons_zero, List.set_cons_succ]
    refine wpAnyH_take (i := 4) (oi := ⟨some 21, Op.load 36 (Operand.tmp 5), 36, _, _, none⟩) (v := .agg (bytesA 32 v.id.f)) rfl (by kernel_rfl) (by kernel_rfl) (by kernel_rfl) (fun _ _ _ h => h) (yieldsIf_ld (by rfl) (Operand.tmp 5) 36 rfl bb 0 rfl (bytesA 32 v.id.f) _ Try.underlying36 rfl (size36A _) fun w hS => hS.2.1) hHeld ?_
    simp only [Act.put, List.setIfInBounds_toArray, List.set_cons_zero, List.set_cons_succ]
    refine wpAnyH_take (i := 5) (oi := ⟨some 22, Op.lookup 75 (Operand.tmp 20) (Operand.tmp 21) false, 39, _, _, none⟩) (v := .agg vv) rfl (by kernel_rfl) (by kernel_rfl) (by kernel_rfl) (fun _ _ _ h => h) (yieldsIf_look (by rfl) (Operand.tmp 20) (Operand.tmp 21) false rfl g.wb v.id.f rfl rfl _ fun wx hS => H1.out wx hS.2.2) hHeld ?_
    simp only [Act.put, List.setIfInBounds_toArray, List.set_cons_zero, List.set_cons_succ]
    refine wpAnyH_take (i := 6) (oi := ⟨some 23, Op.field 39 (Operand.tmp 22) 2, 37, _, _, none⟩) (v := .slice pa v.ps.length pm) rfl (by kernel_rfl) (by kernel_rfl) (by kernel_rfl) (fun _ _ _ h => h) (yieldsIf_fld (by rfl) (Operand.tmp 22) 39 2 rfl _ _ rfl fun w => by rw [hvv.out]; exact fld_ps _ _ _ _ _ w) hHeld ?_
    simp only [Act.put, List.setIfInBounds_toArray, List.set_cons_zero, List.set_cons_succ]
    refine wpAnyH_take (i := 7) (oi := ⟨some 24, Op.call { callee := Callee.builtin Builtin.len, args := #[Operand.tmp 23], argTypes := #[37] }, 3, _, _, none⟩) (v := .int .i64 (v.ps.length : Int)) rfl (by kernel_rfl) (by kernel_rfl) (by kernel_rfl) (fun _ _ _ h => h) (Or.inl ⟨by rfl, fun w hS => by obtain ⟨hS1, hS2, hS3⟩ := hS; go_simp⟩) hHeld ?_
    simp only [Act.put, List.setIfInBounds_toArray, List.set_cons_zero, List.set_cons_succ]
    refine wpAnyH_take (i := 8) (oi := ⟨some 25, Op.move (Operand.const (Value.int IntKind.i64 0)), 3, _, _, none⟩) (v := .int .i64 0) rfl (by kernel_rfl) (by kernel_rfl) (by kernel_rfl) (fun _ _ _ h => h) (Or.inl ⟨by rfl, fun w hS => by obtain ⟨hS1, hS2, hS3⟩ := hS; go_simp⟩) hHeld ?_
    simp only [Act.put, List.setIfInBounds_toArray, List.set_cons_zero, List.set_cons_succ]
    refine wpAnyH_done (by kernel_rfl) ?_ _
    refine hK9 _ _ ?_
    refine wp_block ?_
    have JB3 : Keep (Below w.heap.size w w2.drew) := ⟨JB2.out.drew⟩
    have JO3 := Keep.mk (JO2.out.below (Below.refl _ w2).drew)
    clear HD2 JB2 JO2 HX2 B2
    generalize w2.drew = w3 at *
    refine wp_loop (fun ac wi => ∃ (k : Nat) (z3 z7 z26 z27 z28 z29 z30 z31 z32 z33 z34 z35 z36 z37 z38 z39 z40 z41 z42 z43 : Value), ac = { tmps := #[.pointer (some ⟨d, 0, none⟩), undef, .slice none 0 0, z3, undef, .pointer (some ⟨bb, 0, none⟩), undef, z7, .pointer (some ⟨d, 0, none⟩), .pointer (some ⟨d, 0, none⟩), .pointer (some ⟨d, 5, none⟩), .slice (some ⟨gp, op, none⟩) g.queue.length qc, .int .i64 (g.queue.length : Int), .int .i64 (t : Int), .bool true, .pointer (some ⟨gp, op + t * 32, none⟩), .agg (bytesA 32 v.id.f), .pointer (some ⟨d, 0, none⟩), .pointer (some ⟨d, 0, none⟩), .pointer (some ⟨d, 4, none⟩), .map (some g.wb), .agg (bytesA 32 v.id.f), .agg vv, .slice pa v.ps.length pm, .int .i64 (v.ps.length : Int), .int .i64 (k : Int), z26, z27, z28, z29, z30, z31, z32, z33, z34, z35, z36, z37, z38, z39, z40, z41, z42, z43, u44, undef, undef], defers := [] } ∧ k ≤ v.ps.length ∧ Below w.heap.size w wi ∧ OwnH wi z3 (misL g (g.wait.take t) ++ (v.ps.take k).filter (misP g)) ∧ (∀ i, z3.ownBlock = some i → w.heap.size ≤ i) ∧ (misL g (g.wait.take t) ++ (v.ps.take k).filter (misP g)).length ≤ 64 * t + k) (fun a _ => v.ps.length - (intOf (a.tmps.getD 25 undef)).toNat) ⟨0, u3, u7, u26, u27, u28, u29, u30, u31, u32, u33, u34, u35, u36, u37, u38, u39, u40, u41, u42, u43, rfl, by omega, JB3.out, by rw [List.take_zero, List.filter_nil, List.append_nil]; exact JO3.out, JN.out, by rw [List.take_zero, List.filter_nil, List.append_nil]; exact JC.out⟩ ?_
    rintro ac wi ⟨k, z3, z7, z26, z27, z28, z29, z30, z31, z32, z33, z34, z35, z36, z37, z38, z39, z40, z41, z42, z43, rfl, hk, hB, hO, hN, hC⟩
    have KB := Keep.mk hB
    have KO := Keep.mk hO
    have KN := Keep.mk hN
    have KC := Keep.mk hC
    clear hB hO hN hC
    have HDi := Keep.mk (HD.out.below KB.out)
    by_cases hkl : k < v.ps.length
    · have hkl' : (k : Int) < (v.ps.length : Int) := by omega
      have hwk : IntKind.i64.wrap ((k : Int) + 1) = ((k + 1 : Nat) : Int) := by rw [IntKind.wrap_i64]; have := HVl.out; omega
      obtain ⟨gq, oq, hqa, -, -, hrq⟩ := (HC.out.below KB.out).at (by omega)
      have hel := rangeAt_elem hrq k hkl
      obtain ⟨y, hy⟩ : ∃ y, Keep (y = v.ps[k]) := ⟨_, ⟨rfl⟩⟩
      rw [← hy.out] at hel
      have Hel := Keep.mk hel
      subst hqa
      clear hel hrq
      refine wp_seq_k fun K10 hK10 => ?_
      refine wp_region_list (WL.out ?_)
      refine WL.val (by kernel_rfl) (.bool true) (by go_simp) ?_
      simp only [Act.put, List.setIfInBounds_toArray, List.set_cons_zero, List.set_cons_succ]
      refine WL.nil ?_
      refine hK10 _ _ ?_
      refine wp_seq_k fun K11 hK11 => ?_
      refine wp_cond_true rfl ?_
      refine wp_skip ?_
      refine hK11 _ _ ?_
      refine wp_seq_k fun K12 hK12 => ?_
      refine wp_block ?_
      refine wp_seq_k fun K13 hK13 => ?_
      refine wp_region_list (WL.out ?_)
      refine WL.val (by kernel_rfl) (.pointer (some ⟨gq, oq + k * 32, none⟩)) (by go_simp) ?_
      simp only [Act.put, List.setIfInBounds_toArray, List.set_cons_zero, List.set_cons_succ]
      refine WL.mid (by kernel_rfl) 36 (.tmp 27) rfl gq (oq + k * 32) rfl (encH y) _ Hel.out Try.underlying36 rfl (Try.size36L y) ?_
      rw [enc_load]
      simp only [Act.put, List.setIfInBounds_toArray, List.set_cons_zero, List.set_cons_succ]
      refine WL.new (by kernel_rfl) 36 rfl _ Try.new36 ?_
      simp only [Act.put, List.setIfInBounds_toArray, List.set_cons_zero, List.set_cons_succ]
      refine WL.storeR (by kernel_rfl) 36 (.tmp 7) (.tmp 28) rfl wi.heap.size (bytesA 32 y.f) rfl rfl 36 (bytesA 32 fun _ => 0) (Blk.new wi 36 _) (Try.size36B _) (bytesA_sizes _ _ _) (bytesA_one _ _) ?_
      have HY4 := Keep.mk ((Blk.new wi 36 (bytesA 32 fun _ => 0)).setRow (bytesA 32 y.f))
      have B4 : Keep (Below wi.heap.size wi ((wi.alloc (.cells (bytesA 32 fun _ => 0) 36)).setRow wi.heap.size (bytesA 32 y.f))) := ⟨below_setRow (below_new wi _) (Nat.le_refl _) _⟩
      generalize (wi.alloc (.cells (bytesA 32 fun _ => 0) 36)).setRow wi.heap.size (bytesA 32 y.f) = w4 at *
      have HD4 := Keep.mk (HDi.out.below B4.out)
      have KB4 : Keep (Below w.heap.size w w4) := ⟨belowT KB.out B4.out⟩
      have KO4 := Keep.mk (KO.out.below B4.out)
      generalize wi.heap.size = b7 at *
      clear Hel
      simp only [Act.put]
      refine WL.nil ?_
      refine hK13 _ _ ?_
      refine wp_seq_k fun K14 hK14 => ?_
      refine wp_region_list (WL.out ?_)
      refine WL.val (by kernel_rfl) (.pointer (some ⟨d, 0, none⟩)) (by go_simp) ?_
      simp only [Act.put, List.setIfInBounds_toArray, List.set_cons_zero, List.set_cons_succ]
      refine WL.row (by kernel_rfl) 36 (.tmp 7) rfl b7 rfl 36 (bytesA 32 y.f) _ HY4.out Try.underlying36 rfl (Try.size36B _) ?_
      simp only [Act.put, List.setIfInBounds_toArray, List.set_cons_zero, List.set_cons_succ]
      obtain ⟨b1, hb1⟩ : ∃ b, Keep (hasB g.held y = b) := ⟨_, ⟨rfl⟩⟩
      obtain ⟨b2, hb2⟩ : ∃ b, Keep (hasB g.wait y = b) := ⟨_, ⟨rfl⟩⟩
      have hhs := has_any d y _ g w4 HD4.out.at'
      rw [show (g.held.find? (isV y)).isSome = b1 from hb1.out] at hhs
      refine WL.callF (by kernel_rfl) 45 _ _ rfl Try.in45 #[ptr d, .agg (bytesA 32 y.f)] (by simp [Act.eval]) ?_
      refine (hhs).mono ?_
      rintro e w5 ⟨rfl, hz⟩
      refine ⟨_, rfl, ?_⟩
      clear hhs
      have HY5 := Keep.mk (HY4.out.below hz HY4.out.lt)
      have HD5 := Keep.mk (HD4.out.below hz)
      have KB5 : Keep (Below w.heap.size w w5) := ⟨belowT KB4.out hz⟩
      have KO5 := Keep.mk (KO4.out.below hz)
      clear hz HY4 HD4 KB4 KO4
      simp only [Act.put, List.setIfInBounds_toArray, List.set_cons_zero, List.set_cons_succ]
      by_cases h8_3 : b1 = true
      · skip
        refine WL.val (by kernel_rfl) (.bool false) (by go_simp) ?_
        simp only [Act.put, List.setIfInBounds_toArray, List.set_cons_zero, List.set_cons_succ]
        refine WL.val (by kernel_rfl) (.bool false) (by go_simp) ?_
        simp only [Act.put, List.setIfInBounds_toArray, List.set_cons_zero, List.set_cons_succ]
        refine WL.skip (by kernel_rfl) ?_
        simp only [Act.put, List.setIfInBounds_toArray, List.set_cons_zero, List.set_cons_succ]
        refine WL.skip (by kernel_rfl) ?_
        simp only [Act.put, List.setIfInBounds_toArray, List.set_cons_zero, List.set_cons_succ]
        refine WL.skip (by kernel_rfl) ?_
        simp only [Act.put, List.setIfInBounds_toArray, List.set_cons_zero, List.set_cons_succ]
        refine WL.skip (by kernel_rfl) ?_
        simp only [Act.put, List.setIfInBounds_toArray, List.set_cons_zero, List.set_cons_succ]
        refine WL.val (by kernel_rfl) (.bool false) (by go_simp) ?_
        simp only [Act.put, List.setIfInBounds_toArray, List.set_cons_zero, List.set_cons_succ]
        refine WL.nil ?_
        refine hK14 _ _ ?_
        refine wp_cond_false rfl ?_
        refine wp_skip ?_
        refine hK12 _ _ ?_
        refine wp_region_list (WL.out ?_)
        refine WL.val (by kernel_rfl) (.int .i64 ((k + 1 : Nat) : Int)) (by go_simp) ?_
        simp only [Act.put, List.setIfInBounds_toArray, List.set_cons_zero, List.set_cons_succ]
        refine WL.val (by kernel_rfl) (.int .i64 ((k + 1 : Nat) : Int)) (by go_simp) ?_
        simp only [Act.put, List.setIfInBounds_toArray, List.set_cons_zero, List.set_cons_succ]
        refine WL.nil ?_
        have hf : (v.ps.take (k + 1)).filter (misP g) = (v.ps.take k).filter (misP g) ++ (if misP g y = true then [y] else []) := by rw [List.take_succ_eq_append_getElem hkl, List.filter_append, ← hy.out]; congr 1; by_cases h : misP g y = true <;> simp [h]
        have hm : ¬ misP g y = true := by unfold misP; rw [hb1.out, hb2.out]; revert h8_3; (try revert h8_8); cases b1 <;> cases b2 <;> simp
        rw [if_neg hm, List.append_nil] at hf
        refine ⟨⟨k + 1, z3, .pointer (some ⟨b7, 0, none⟩), .bool true, .pointer (some ⟨gq, oq + k * 32, none⟩), .agg (bytesA 32 y.f), .pointer (some ⟨d, 0, none⟩), .agg (bytesA 32 y.f), .bool b1, .bool false, .bool false, undef, undef, undef, undef, .bool false, z39, z40, z41, z42, .int .i64 ((k + 1 : Nat) : Int), rfl, by omega, KB5.out, by rw [hf]; exact KO5.out, KN.out, by rw [hf]; have := KC.out; omega⟩, ?_⟩
        simp only [intOf]; show v.ps.length - (((k + 1 : Nat) : Int)).toNat < v.ps.length - ((k : Int)).toNat; omega
      · skip
        refine WL.val (by kernel_rfl) (.bool true) (by go_simp) ?_
        simp only [Act.put, List.setIfInBounds_toArray, List.set_cons_zero, List.set_cons_succ]
        refine WL.val (by kernel_rfl) (.bool true) (by go_simp) ?_
        simp only [Act.put, List.setIfInBounds_toArray, List.set_cons_zero, List.set_cons_succ]
        refine WL.val (by kernel_rfl) (.pointer (some ⟨d, 0, none⟩)) (by go_simp) ?_
        simp only [Act.put, List.setIfInBounds_toArray, List.set_cons_zero, List.set_cons_succ]
        refine WL.row (by kernel_rfl) 36 (.tmp 7) rfl b7 rfl 36 (bytesA 32 y.f) _ HY5.out Try.underlying36 rfl (Try.size36B _) ?_
        simp only [Act.put, List.setIfInBounds_toArray, List.set_cons_zero, List.set_cons_succ]
        have hws := waits_any d y _ g w5 HD5.out.at'
        rw [show (g.wait.find? (isV y)).isSome = b2 from hb2.out] at hws
        refine WL.callF (by kernel_rfl) 47 _ _ rfl Try.in47 #[ptr d, .agg (bytesA 32 y.f)] (by simp [Act.eval]) ?_
        refine (hws).mono ?_
        rintro e w6 ⟨rfl, hz⟩
        refine ⟨_, rfl, ?_⟩
        clear hws
        have HY6 := Keep.mk (HY5.out.below hz HY5.out.lt)
        have KB6 : Keep (Below w.heap.size w w6) := ⟨belowT KB5.out hz⟩
        have KO6 := Keep.mk (KO5.out.below hz)
        clear hz
        simp only [Act.put, List.setIfInBounds_toArray, List.set_cons_zero, List.set_cons_succ]
        by_cases h8_8 : b2 = true
        · skip
          refine WL.val (by kernel_rfl) (.bool false) (by go_simp) ?_
          simp only [Act.put, List.setIfInBounds_toArray, List.set_cons_zero, List.set_cons_succ]
          refine WL.val (by kernel_rfl) (.bool false) (by go_simp) ?_
          simp only [Act.put, List.setIfInBounds_toArray, List.set_cons_zero, List.set_cons_succ]
          refine WL.nil ?_
          refine hK14 _ _ ?_
          refine wp_cond_false rfl ?_
          refine wp_skip ?_
          refine hK12 _ _ ?_
          refine wp_region_list (WL.out ?_)
          refine WL.val (by kernel_rfl) (.int .i64 ((k + 1 : Nat) : Int)) (by go_simp) ?_
          simp only [Act.put, List.setIfInBounds_toArray, List.set_cons_zero, List.set_cons_succ]
          refine WL.val (by kernel_rfl) (.int .i64 ((k + 1 : Nat) : Int)) (by go_simp) ?_
          simp only [Act.put, List.setIfInBounds_toArray, List.set_cons_zero, List.set_cons_succ]
          refine WL.nil ?_
          have hf : (v.ps.take (k + 1)).filter (misP g) = (v.ps.take k).filter (misP g) ++ (if misP g y = true then [y] else []) := by rw [List.take_succ_eq_append_getElem hkl, List.filter_append, ← hy.out]; congr 1; by_cases h : misP g y = true <;> simp [h]
          have hm : ¬ misP g y = true := by unfold misP; rw [hb1.out, hb2.out]; revert h8_3; (try revert h8_8); cases b1 <;> cases b2 <;> simp
          rw [if_neg hm, List.append_nil] at hf
          refine ⟨⟨k + 1, z3, .pointer (some ⟨b7, 0, none⟩), .bool true, .pointer (some ⟨gq, oq + k * 32, none⟩), .agg (bytesA 32 y.f), .pointer (some ⟨d, 0, none⟩), .agg (bytesA 32 y.f), .bool b1, .bool true, .bool true, .pointer (some ⟨d, 0, none⟩), .agg (bytesA 32 y.f), .bool b2, .bool false, .bool false, z39, z40, z41, z42, .int .i64 ((k + 1 : Nat) : Int), rfl, by omega, KB6.out, by rw [hf]; exact KO6.out, KN.out, by rw [hf]; have := KC.out; omega⟩, ?_⟩
          simp only [intOf]; show v.ps.length - (((k + 1 : Nat) : Int)).toNat < v.ps.length - ((k : Int)).toNat; omega
        · skip
          refine WL.val (by kernel_rfl) (.bool true) (by go_simp) ?_
          simp only [Act.put, List.setIfInBounds_toArray, List.set_cons_zero, List.set_cons_succ]
          refine WL.val (by kernel_rfl) (.bool true) (by go_simp) ?_
          simp only [Act.put, List.setIfInBounds_toArray, List.set_cons_zero, List.set_cons_succ]
          refine WL.nil ?_
          refine hK14 _ _ ?_
          refine wp_cond_true rfl ?_
          refine wp_region_list (WL.out ?_)
          refine WL.val (by kernel_rfl) (z3) (by go_simp) ?_
          simp only [Act.put, List.setIfInBounds_toArray, List.set_cons_zero, List.set_cons_succ]
          refine WL.row (by kernel_rfl) 36 (.tmp 7) rfl b7 rfl 36 (bytesA 32 y.f) _ HY6.out Try.underlying36 rfl (Try.size36B _) ?_
          simp only [Act.put, List.setIfInBounds_toArray, List.set_cons_zero, List.set_cons_succ]
          refine WL.bs (by kernel_rfl) 37 1 _ rfl #[(0, .agg (bytesA 32 y.f))] (by simp [Act.eval]) _ _ (bsH y w6) ?_
          have HGy := Keep.mk (Blk.new w6 36 (bytesA 32 y.f))
          have B7 := Keep.mk (below_new w6 (.cells (bytesA 32 y.f) 36))
          generalize w6.alloc (.cells (bytesA 32 y.f) 36) = w7 at *
          have KB7 : Keep (Below w.heap.size w w7) := ⟨belowT KB6.out B7.out⟩
          have KO7 := Keep.mk (KO6.out.below B7.out)
          generalize w6.heap.size = gy at *
          simp only [Act.put, List.setIfInBounds_toArray, List.set_cons_zero, List.set_cons_succ]
          refine WL.appH (by kernel_rfl) (.tmp 39) (.tmp 41) rfl _ _ gy y rfl rfl KO7.out HGy.out (by have := KC.out; have := HD.out.di.qlen; have := HD.out.di.wl; have := HVl.out; omega) fun v8 w8 h1 h2 h3 => ?_
          have KO8 := Keep.mk h1
          have G8 := Keep.mk h2
          have M8 := Keep.mk h3
          clear h1 h2 h3
          simp only [Act.put, List.setIfInBounds_toArray, List.set_cons_zero, List.set_cons_succ]
          refine WL.val (by kernel_rfl) (v8) (by go_simp) ?_
          simp only [Act.put, List.setIfInBounds_toArray, List.set_cons_zero, List.set_cons_succ]
          refine WL.nil ?_
          refine hK12 _ _ ?_
          refine wp_region_list (WL.out ?_)
          refine WL.val (by kernel_rfl) (.int .i64 ((k + 1 : Nat) : Int)) (by go_simp) ?_
          simp only [Act.put, List.setIfInBounds_toArray, List.set_cons_zero, List.set_cons_succ]
          refine WL.val (by kernel_rfl) (.int .i64 ((k + 1 : Nat) : Int)) (by go_simp) ?_
          simp only [Act.put, List.setIfInBounds_toArray, List.set_cons_zero, List.set_cons_succ]
          refine WL.nil ?_
          have hf : (v.ps.take (k + 1)).filter (misP g) = (v.ps.take k).filter (misP g) ++ (if misP g y = true then [y] else []) := by rw [List.take_succ_eq_append_getElem hkl, List.filter_append, ← hy.out]; congr 1; by_cases h : misP g y = true <;> simp [h]
          have hm : misP g y = true := by unfold misP; rw [hb1.out, hb2.out]; revert h8_3; (try revert h8_8); cases b1 <;> cases b2 <;> simp
          rw [if_pos hm] at hf
          refine ⟨⟨k + 1, v8, .pointer (some ⟨b7, 0, none⟩), .bool true, .pointer (some ⟨gq, oq + k * 32, none⟩), .agg (bytesA 32 y.f), .pointer (some ⟨d, 0, none⟩), .agg (bytesA 32 y.f), .bool b1, .bool true, .bool true, .pointer (some ⟨d, 0, none⟩), .agg (bytesA 32 y.f), .bool b2, .bool true, .bool true, z3, .agg (bytesA 32 y.f), .slice (some ⟨gy, 0, none⟩) 1 1, v8, .int .i64 ((k + 1 : Nat) : Int), rfl, by omega, KB7.out.trans (G8.out.to_below (fun i hi e => by have := KN.out i e; omega) KB7.out.size), by rw [hf, ← List.append_assoc]; exact KO8.out, fun i hi => M8.out.elim (fun e => KN.out i (by have e' : v8.ownBlock = z3.ownBlock := e; rw [← e']; exact hi)) fun ⟨q, e, hq⟩ => by rw [hi] at e; have := Option.some.inj e; have := KB7.out.size; omega, by rw [hf]; have := KC.out; simp only [List.length_append, List.length_singleton] at this ⊢; omega⟩, ?_⟩
          simp only [intOf]; show v.ps.length - (((k + 1 : Nat) : Int)).toNat < v.ps.length - ((k : Int)).toNat; omega
    · have hke : k = v.ps.length := by omega
      have hkl' : ¬ (k : Int) < (v.ps.length : Int) := by omega
      refine wp_seq_k fun K15 hK15 => ?_
      refine wp_region_list (WL.out ?_)
      refine WL.val (by kernel_rfl) (.bool false) (by go_simp) ?_
      simp only [Act.put, List.setIfInBounds_toArray, List.set_cons_zero, List.set_cons_succ]
      refine WL.nil ?_
      refine hK15 _ _ ?_
      refine wp_seq_k fun K16 hK16 => ?_
      refine wp_cond_false rfl ?_
      refine wp_exit ?_
      refine hK7 _ _ ?_
      refine wp_region_list (WL.out ?_)
      refine WL.val (by kernel_rfl) (.int .i64 ((t + 1 : Nat) : Int)) (by go_simp) ?_
      simp only [Act.put, List.setIfInBounds_toArray, List.set_cons_zero, List.set_cons_succ]
      refine WL.val (by kernel_rfl) (.int .i64 ((t + 1 : Nat) : Int)) (by go_simp) ?_
      simp only [Act.put, List.setIfInBounds_toArray, List.set_cons_zero, List.set_cons_succ]
      refine WL.nil ?_
      have hfl : misL g (g.wait.take (t + 1)) = misL g (g.wait.take t) ++ (v.ps.take k).filter (misP g) := by rw [List.take_succ_eq_append_getElem htw, misL_app, ← hv.out, hke, List.take_length]
      refine ⟨⟨t + 1, z3, .pointer (some ⟨bb, 0, none⟩), z7, .bool true, .pointer (some ⟨gp, op + t * 32, none⟩), .agg (bytesA 32 v.id.f), .pointer (some ⟨d, 0, none⟩), .pointer (some ⟨d, 0, none⟩), .pointer (some ⟨d, 4, none⟩), .map (some g.wb), .agg (bytesA 32 v.id.f), .agg vv, .slice pa v.ps.length pm, .int .i64 (v.ps.length : Int), .int .i64 (k : Int), .bool false, z27, z28, z29, z30, z31, z32, z33, z34, z35, z36, z37, z38, z39, z40, z41, z42, z43, .int .i64 ((t + 1 : Nat) : Int), rfl, by omega, KB.out, by rw [hfl]; exact KO.out, KN.out, by rw [hfl]; have := KC.out; have := HVl.out; omega⟩, ?_⟩
      simp only [intOf]; show g.queue.length - (((t + 1 : Nat) : Int)).toNat < g.queue.length - ((t : Int)).toNat; omega
  · have hte : t = g.queue.length := by omega
    have htl' : ¬ (t : Int) < (g.queue.length : Int) := by omega
    refine wp_seq_k fun K17 hK17 => ?_
    refine wp_region_list (WL.out ?_)
    refine WL.val (by kernel_rfl) (.bool false) (by go_simp) ?_
    simp only [Act.put, List.setIfInBounds_toArray, List.set_cons_zero, List.set_cons_succ]
    refine WL.nil ?_
    refine hK17 _ _ ?_
    refine wp_seq_k fun K18 hK18 => ?_
    refine wp_cond_false rfl ?_
    refine wp_exit ?_
    refine hK3 _ _ ?_
    refine wp_seq_k fun K19 hK19 => ?_
    refine wp_region_list (WL.out ?_)
    refine WL.val (by kernel_rfl) (u3) (by go_simp) ?_
    simp only [Act.put, List.setIfInBounds_toArray, List.set_cons_zero, List.set_cons_succ]
    have hso := sort_any u3 _ wr JO.out.row (by have := JC.out; have := HD.out.di.qlen; have := HD.out.di.wl; omega)
    refine WL.callF (by kernel_rfl) 77 _ _ rfl Try.in77 #[u3] (by simp [Act.eval]) ?_
    refine (hso.mono (R' := fun e w' => ∃ v' L', e = .returned v' ∧ OwnH w' v' L' ∧ (∀ k, v'.ownBlock = some k → wr.heap.size ≤ k) ∧ L'.Pairwise Lt ∧ (∀ x, x ∈ L' ↔ x ∈ misL g g.wait) ∧ L'.length ≤ 4096 ∧ Below wr.heap.size wr w') (fun e w' ⟨v', L', h1, h2, h3, h4, h5, h6⟩ => ⟨v', L', h1, OwnH.of h2, ownsH_block h2, h3, by rw [hte, HD.out.di.qlen, List.take_length] at h4; exact h4, by have := JC.out; have := HD.out.di.qlen; have := HD.out.di.wl; omega, h6⟩)).mono ?_
    rintro e w9 ⟨v9, L9, rfl, h1, h2, h3, h4, h5, h6⟩
    refine ⟨_, rfl, ?_⟩
    clear hso
    have R1 := Keep.mk h1
    have R2 := Keep.mk h2
    have R3 := Keep.mk h3
    have R4 := Keep.mk h4
    have R5 := Keep.mk h5
    have R6 := Keep.mk h6
    clear h1 h2 h3 h4 h5 h6
    simp only [Act.put, List.setIfInBounds_toArray, List.set_cons_zero, List.set_cons_succ]
    refine WL.val (by kernel_rfl) (v9) (by go_simp) ?_
    simp only [Act.put, List.setIfInBounds_toArray, List.set_cons_zero, List.set_cons_succ]
    refine WL.nil ?_
    refine hK19 _ _ ?_
    refine wp_ret ?_
    go_ret
    exact ⟨v9, L9, rfl, ⟨R1.out, fun k hk => Nat.le_trans JB.out.size (R2.out k hk), belowT JB.out R6.out⟩, R3.out, R4.out, R5.out⟩
end Go.Proofs.Ytogmdfhicbmplaa
namespace Go.Proofs.Ytogmdfhicbmplaa
open Go.RowKit
set_option linter.unusedSimpArgs false
set_option linter.unusedVariables false

/-! ### What a Dag tells, list by list. -/
def srt : List Hs → List Hs
  | [] => []
  | x :: r => mrg [x] (srt r)
theorem srt_pw : ∀ l : List Hs, (srt l).Pairwise Lt
  | [] => List.Pairwise.nil
  | x :: r => mrg_rising _ _ (by simp) (srt_pw r)
theorem srt_mem (x : Hs) : ∀ l : List Hs, x ∈ srt l ↔ x ∈ l
  | [] => by simp [srt]
  | y :: r => by rw [srt, mrg_mem, srt_mem x r]; simp
/-- The parents of the one that Next tells. -/
def nxPs (g : DG) : List Hs := match nxQ g.held g.wait g.queue with
  | some v => v.ps
  | none => []
/-- The six lists that a Dag tells. -/
def lsL (g : DG) (h : Hs) : Nat → List Hs
  | 0 => g.heads
  | 1 => srt (misL g g.wait)
  | 2 => g.queue
  | 3 => g.order
  | 4 => parH g.held h
  | _ => nxPs g
theorem lsL_len {g : DG} (hI : DI g) (h : Hs) (hm : (srt (misL g g.wait)).length ≤ 4096) (i : Nat) : (lsL g h i).length ≤ 4096 := by
  have h1 := hI.ol
  have h2 := hI.hl
  have h3 := hI.hdl
  have h4 := hI.qlen
  have h5 := hI.wl
  match i with
  | 0 => show g.heads.length ≤ 4096; omega
  | 1 => exact hm
  | 2 => show g.queue.length ≤ 4096; omega
  | 3 => show g.order.length ≤ 4096; omega
  | 4 =>
    show (parH g.held h).length ≤ 4096
    unfold parH
    split
    · rename_i v hv; have := chk_ok (hI.hc v (List.mem_of_find?_eq_some hv)); omega
    · simp
  | n + 5 =>
    show (nxPs g).length ≤ 4096
    unfold nxPs
    split
    · rename_i v hv; have := chk_ok (hI.wc v (hI.nextOne hv).2.2); omega
    · simp
/-- v is a slice of six lists that are one's own, above B. -/
structure LsAt (w : World) (B : Nat) (v : Value) (gl : Nat) (V : Nat → Value) (L : Nat → List Hs) : Prop where
  eq : ∃ c, v = .slice (some ⟨gl, 0, none⟩) 6 c
  cell : ∀ i, i < 6 → w.cell? ⟨gl, i, none⟩ = some (V i)
  typ : Typ w gl 37
  lo : B ≤ gl
  own : ∀ i, i < 6 → OwnH w (V i) (L i)
  new : ∀ i, i < 6 → ∀ k, (V i).ownBlock = some k → B ≤ k
/-- No two of them share a block. -/
def LsAp (V : Nat → Value) : Prop := ∀ i j, i < 6 → j < 6 → i ≠ j → ∀ k, (V i).ownBlock = some k → (V j).ownBlock ≠ some k
theorem LsAt.grown {w w' : World} {B : Nat} {v : Value} {gl : Nat} {V : Nat → Value} {L : Nat → List Hs} {S : Nat → Prop} (h : LsAt w B v gl V L) (hg : Grown w w' S) (h1 : ¬ S gl) (h2 : ∀ i, i < 6 → ∀ k, (V i).ownBlock = some k → ¬ S k) : LsAt w' B v gl V L :=
  ⟨h.eq, fun i hi => cell_grown (h.cell i hi) hg h1, hg.typ h.typ h1, h.lo, fun i hi => (h.own i hi).grown hg (h2 i hi), h.new⟩
theorem LsAt.below {w w' : World} {B : Nat} {v : Value} {gl : Nat} {V : Nat → Value} {L : Nat → List Hs} (h : LsAt w B v gl V L) (hb : Below w.heap.size w w') : LsAt w' B v gl V L :=
  h.grown (Grown.below (S := fun _ => False) hb) (fun e => e) fun _ _ _ _ e => e
theorem LsAt.lt {w : World} {B : Nat} {v : Value} {gl : Nat} {V : Nat → Value} {L : Nat → List Hs} (h : LsAt w B v gl V L) : gl < w.heap.size ∧ ∀ i, i < 6 → ∀ k, (V i).ownBlock = some k → k < w.heap.size := ⟨h.typ.lt, fun i hi => (h.own i hi).lt⟩
theorem LsAt.ne {w : World} {B : Nat} {v : Value} {gl : Nat} {V : Nat → Value} {L : Nat → List Hs} (h : LsAt w B v gl V L) : ∀ i, i < 6 → ∀ k, (V i).ownBlock = some k → gl ≠ k := fun i hi k hk e => by
  have := ((h.own i hi).typ hk).one (e ▸ h.typ); revert this; decide
theorem bsL (a : Nat → Option Addr) (n c : Nat → Nat) (w : World) : (Instr.buildSlice 65 6 #[(0, .slice (a 0) (n 0) (c 0)), (1, .slice (a 1) (n 1) (c 1)), (2, .slice (a 2) (n 2) (c 2)), (3, .slice (a 3) (n 3) (c 3)), (4, .slice (a 4) (n 4) (c 4)), (5, .slice (a 5) (n 5) (c 5))]).run Try.prog w = .ok (.slice (some ⟨w.heap.size, 0, none⟩) 6 6) (w.alloc (.cells #[.slice (a 0) (n 0) (c 0), .slice (a 1) (n 1) (c 1), .slice (a 2) (n 2) (c 2), .slice (a 3) (n 3) (c 3), .slice (a 4) (n 4) (c 4), .slice (a 5) (n 5) (c 5)] 37)) := by kernel_rfl
/-! ### A list that is written over. -/
/-- The slice v owns so many hashes' cells, whatever they hold. -/
def OwnX (w : World) (v : Value) (n : Nat) : Prop := ∃ xs, w.ownsRow 0 36 32 v n xs
theorem OwnH.x {w : World} {v : Value} {l : List Hs} (h : OwnH w v l) : OwnX w v l.length := ⟨_, h⟩
theorem OwnX.sl {w : World} {v : Value} {n : Nat} (h : OwnX w v n) : ∃ a c, v = .slice a n c := by
  obtain ⟨xs, _, h⟩ := h
  rcases h with ⟨rfl, rfl⟩ | ⟨g, cap, cur, rfl, _⟩
  · exact ⟨none, 0, rfl⟩
  · exact ⟨_, cap, rfl⟩
theorem OwnX.at {w : World} {a : Option Addr} {n m c : Nat} (h : OwnX w (.slice a m c) n) (h0 : 0 < n) : ∃ g cur, a = some ⟨g, 0, none⟩ ∧ m = n ∧ Blk w g 36 cur ∧ n ≤ c ∧ c ≤ maxLen ∧ cur.size = c * 32 := by
  obtain ⟨xs, _, h⟩ := h
  rcases h with ⟨_, h1⟩ | ⟨g, cap, cur, e, h1, h2, h3, h4, h5, h6⟩
  · omega
  · injection e with e1 e2 e3
    subst e1 e3
    exact ⟨g, cur, rfl, e2, h2, h3, h4, h5⟩
theorem ownX_mk {w : World} {g n c : Nat} {cur : Array Value} (hb : Blk w g 36 cur) (h1 : n ≤ c) (h2 : c ≤ maxLen) (h3 : cur.size = c * 32) : OwnX w (.slice (some ⟨g, 0, none⟩) n c) n :=
  ⟨cur.toList.take (n * 32), by rw [List.length_take, Array.length_toList, h3]; omega, .inr ⟨g, c, cur, rfl, Nat.zero_le _, hb, h1, h2, h3, rfl⟩⟩
theorem run_appX (w : World) (ty : TypeId) (v : Value) (n : Nat) (hown : OwnX w v n) (g : Nat) (cs : Array Value) (hg : Blk w g 36 cs) (hcs : cs.size = 32) (h1 : cs.all (·.oneCell') = true) (hb : n ≤ 1000000000000) :
    ∃ v' w', (Builtin.append_ #[37, 37] ty #[v, .slice (some ⟨g, 0, none⟩) 1 1]).run Try.prog w = .ok v' w' ∧ OwnX w' v' (n + 1) ∧ (Grown w w' fun k => v.ownBlock = some k) ∧ Moved w v v' := by
  obtain ⟨xs, hown⟩ := hown
  obtain ⟨i, hi, hzz⟩ := Option.map_eq_some_iff.1 Try.infoH
  simp only [Prod.mk.injEq] at hzz
  obtain ⟨hz, hsz, hby⟩ := hzz
  have hzs : (Value.agg (bytesA 32 fun _ => 0)).cells.size = 32 := by show (bytesA 32 fun _ => 0).size = 32; exact bytesA_size _ _
  obtain ⟨v', w', hr, k1, k2, _, k3⟩ := run_append_own_at (P := Try.prog) w 0 37 ty 36 i (.agg (bytesA 32 fun _ => 0)) 32 32 Try.underlying37 hi hz hsz hby hzs (by omega) v n xs hown ⟨g, 0, none⟩ 1 1 cs.toList (by rw [Array.length_toList, hcs]) (fun j u hu => by
      rw [Addr.add_mid, Nat.zero_add, hg.cell, ← Array.getElem?_toList]
      exact hu)
    (fun u hu => (Array.all_eq_true_iff_forall_mem.1 h1) u (by simpa using hu)) (by unfold maxLen; omega) (by omega) (Nat.zero_le _)
  refine ⟨v', w', hr, ⟨_, k1⟩, Grown.of k2 fun k _ e => e, ?_⟩
  rcases k3 with h | h
  · exact .inl h
  · exact .inr ⟨_, h, Nat.le_refl _⟩
theorem WL.appX {ops : Array Oper} {rest : List Oper} {o : Oper} {a : Act} {w : World} {Q : Exit → Act → World → Prop} (hw : Region.wanted o (yielded ops a.tmps) = true) (s x : Operand)
    (ho : o.op = .call { callee := .builtin .append, args := #[s, x], argTypes := #[37, 37] }) (v : Value) (n g : Nat) (cs : Array Value)
    (hs : a.eval s = v) (hx : a.eval x = .slice (some ⟨g, 0, none⟩) 1 1) (hown : OwnX w v n) (hg : Blk w g 36 cs) (hcs : cs.size = 32) (h1 : cs.all (·.oneCell') = true) (hb : n ≤ 1000000000000)
    (h : ∀ v' w', OwnX w' v' (n + 1) → (Grown w w' fun k => v.ownBlock = some k) → Moved w v v' → WL Try.prog ops Q rest (a.put o.dst v') w') : WL Try.prog ops Q (o :: rest) a w :=
  ⟨wpList_wanted hw fun K hK => by
    obtain ⟨v', w', hr, k1, k2, k3⟩ := run_appX w o.type v n hown g cs hg hcs h1 hb
    unfold Oper.wp execOp
    simp only [ho, resolve, invoke, builtin, Sem.run_bind, Sem.run_pure, Result.andThen_ok, List.map_toArray, List.map_cons, List.map_nil, hs, hx, hr]
    exact hK _ _ (h v' w' k1 k2 k3).out⟩
end Go.Proofs.Ytogmdfhicbmplaa
namespace Go.Proofs.Ytogmdfhicbmplaa
open Go.RowKit
set_option linter.unusedSimpArgs false
set_option linter.unusedVariables false

theorem Try.in35 (w : World) (vs : Array Value) : (callFunc 35 vs).run Try.prog w = .ok (.enter 35 vs) w := by kernel_rfl
set_option maxRecDepth 8000 in
set_option maxHeartbeats 1000000 in
theorem next_first (d : Nat) (v : VX) (r : List Hs) (Av : Nat → Prop) (g : DG) (w : World) (hD : DagAt w Av d g) (hQ : g.queue = v.id :: r) (hF : g.wait.find? (isV v.id) = some v) (hA : v.ps.all (hasB g.held) = true) (hL : v.ps.length ≤ 4398046511104) : Calls Try.prog 35 #[ptr d] w fun e w' => ∃ a n c, e = .returned (.tuple #[.agg (vtx v.id.f v.ck (.slice a n c)), .bool true]) ∧ Below w.heap.size w w' := by
  have HD := Keep.mk hD
  have HQ := Keep.mk hQ
  have HF := Keep.mk hF
  have HA := Keep.mk hA
  have HL := Keep.mk hL
  clear hD hQ hF hA hL
  go_enter Try.func35, Try.ntmps35
  refine wp_seq_k fun K1 hK1 => ?_
  refine wp_region_list (WL.out ?_)
  refine WL.new (by kernel_rfl) 39 rfl _ Try.new39 ?_
  obtain ⟨vz, hvz⟩ : ∃ a : Array Value, Keep (a = vtx (fun _ => 0) 0 (.slice none 0 0)) := ⟨_, ⟨rfl⟩⟩
  rw [← hvz.out]
  have HZ1 := Keep.mk (Blk.new w 39 vz)
  have LB1 := Keep.mk (below_new w (.cells vz 39))
  generalize w.alloc (.cells vz 39) = w1 at *
  have HD1 := Keep.mk (HD.out.below LB1.out)
  obtain ⟨qa, qc, hqv⟩ := HD1.out.oq.sl
  have hql : 0 < g.queue.length := by rw [HQ.out]; simp
  have hql' : (0 : Int) < (g.queue.length : Int) := by omega
  have hrw : HRow w1 (.slice qa g.queue.length qc) g.queue := hqv ▸ HD1.out.oq.row
  obtain ⟨gp, op, hpa, _, _, hrg⟩ := hrw.at hql
  subst hpa
  have hel := rangeAt_elem hrg 0 hql
  rw [Nat.zero_mul, Nat.add_zero] at hel
  obtain ⟨hh, hhh⟩ : ∃ hh, hh = g.queue[0] := ⟨_, rfl⟩
  rw [← hhh] at hel
  have hhx : hh = v.id := by rw [hhh]; simp [HQ.out]
  subst hhx
  have c5 : w1.cell? ⟨d, 5, none⟩ = some (.slice (some ⟨gp, op, none⟩) g.queue.length qc) := by have h := HD1.out.blk.c 5 (by rfl : (dgA g)[5]? = some g.qv); rw [hqv] at h; exact h
  have Hel := Keep.mk hel
  clear hel hrg hrw hhh
  simp only [Act.put, List.setIfInBounds_toArray, List.set_cons_zero, List.set_cons_succ]
  refine WL.val (by kernel_rfl) (.bool false) (by go_simp) ?_
  simp only [Act.put, List.setIfInBounds_toArray, List.set_cons_zero, List.set_cons_succ]
  refine WL.nil ?_
  refine hK1 _ _ ?_
  refine wp_seq_k fun K2 hK2 => ?_
  refine wp_seq_k fun K3 hK3 => ?_
  refine wp_region_list (WL.out ?_)
  refine WL.val (by kernel_rfl) (.pointer (some ⟨d, 0, none⟩)) (by go_simp) ?_
  simp only [Act.put, List.setIfInBounds_toArray, List.set_cons_zero, List.set_cons_succ]
  refine WL.val (by kernel_rfl) (.pointer (some ⟨d, 0, none⟩)) (by go_simp) ?_
  simp only [Act.put, List.setIfInBounds_toArray, List.set_cons_zero, List.set_cons_succ]
  refine WL.val (by kernel_rfl) (.pointer (some ⟨d, 5, none⟩)) (by go_simp) ?_
  simp only [Act.put, List.setIfInBounds_toArray, List.set_cons_zero, List.set_cons_succ]
  refine WL.val (by kernel_rfl) (.slice (some ⟨gp, op, none⟩) g.queue.length qc) (by go_simp) ?_
  simp only [Act.put, List.setIfInBounds_toArray, List.set_cons_zero, List.set_cons_succ]
  refine WL.val (by kernel_rfl) (.int .i64 (g.queue.length : Int)) (by go_simp) ?_
  simp only [Act.put, List.setIfInBounds_toArray, List.set_cons_zero, List.set_cons_succ]
  refine WL.val (by kernel_rfl) (.int .i64 0) (by go_simp) ?_
  simp only [Act.put, List.setIfInBounds_toArray, List.set_cons_zero, List.set_cons_succ]
  refine WL.nil ?_
  refine hK3 _ _ ?_
  refine wp_block ?_
  refine wp_loop (fun ac wr => ∃ (t : Nat) (u3 u5 u6 u13 u14 u15 u16 u17 u18 u19 u20 u21 u22 u23 u24 u25 u26 u27 u28 : Value), ac = { tmps := #[.pointer (some ⟨d, 0, none⟩), undef, .pointer (some ⟨w.heap.size, 0, none⟩), u3, undef, u5, u6, .pointer (some ⟨d, 0, none⟩), .pointer (some ⟨d, 0, none⟩), .pointer (some ⟨d, 5, none⟩), .slice (some ⟨gp, op, none⟩) g.queue.length qc, .int .i64 (g.queue.length : Int), .int .i64 0, u13, u14, u15, u16, u17, u18, u19, u20, u21, u22, u23, u24, u25, u26, u27, u28, undef], defers := [] } ∧ w1 = wr) (fun a _ => 0) ⟨0, .bool false, undef, undef, undef, undef, undef, undef, undef, undef, undef, undef, undef, undef, undef, undef, undef, undef, undef, undef, rfl, rfl⟩ ?_
  rintro ac wr ⟨t, u3, u5, u6, u13, u14, u15, u16, u17, u18, u19, u20, u21, u22, u23, u24, u25, u26, u27, u28, rfl, hW⟩
  obtain rfl := hW
  refine wp_seq_k fun K4 hK4 => ?_
  refine wp_region_list (WL.out ?_)
  refine WL.val (by kernel_rfl) (.bool true) (by go_simp) ?_
  simp only [Act.put, List.setIfInBounds_toArray, List.set_cons_zero, List.set_cons_succ]
  refine WL.nil ?_
  refine hK4 _ _ ?_
  refine wp_seq_k fun K5 hK5 => ?_
  refine wp_cond_true rfl ?_
  refine wp_skip ?_
  refine hK5 _ _ ?_
  refine wp_seq_k fun K6 hK6 => ?_
  refine wp_block ?_
  refine wp_seq_k fun K7 hK7 => ?_
  refine wp_region_list (WL.out ?_)
  refine WL.val (by kernel_rfl) (.pointer (some ⟨gp, op, none⟩)) (by go_simp) ?_
  simp only [Act.put, List.setIfInBounds_toArray, List.set_cons_zero, List.set_cons_succ]
  refine WL.mid (by kernel_rfl) 36 (.tmp 14) rfl gp op rfl (encH v.id) _ Hel.out Try.underlying36 rfl (Try.size36L v.id) ?_
  rw [enc_load]
  simp only [Act.put, List.setIfInBounds_toArray, List.set_cons_zero, List.set_cons_succ]
  refine WL.new (by kernel_rfl) 36 rfl _ Try.new36 ?_
  simp only [Act.put, List.setIfInBounds_toArray, List.set_cons_zero, List.set_cons_succ]
  refine WL.storeR (by kernel_rfl) 36 (.tmp 5) (.tmp 15) rfl w1.heap.size (bytesA 32 v.id.f) rfl rfl 36 (bytesA 32 fun _ => 0) (Blk.new w1 36 _) (Try.size36B _) (bytesA_sizes _ _ _) (bytesA_one _ _) ?_
  have HX2 := Keep.mk ((Blk.new w1 36 (bytesA 32 fun _ => 0)).setRow (bytesA 32 v.id.f))
  have B2 : Keep (Below w1.heap.size w1 ((w1.alloc (.cells (bytesA 32 fun _ => 0) 36)).setRow w1.heap.size (bytesA 32 v.id.f))) := ⟨below_setRow (below_new w1 _) (Nat.le_refl _) _⟩
  generalize (w1.alloc (.cells (bytesA 32 fun _ => 0) 36)).setRow w1.heap.size (bytesA 32 v.id.f) = w2 at *
  have HD2 := Keep.mk (HD1.out.below B2.out)
  have HZ2 := Keep.mk (HZ1.out.below B2.out HZ1.out.lt)
  have LB2 := Keep.mk (belowT LB1.out B2.out)
  generalize w1.heap.size = bb at *
  clear Hel c5 HD1 HZ1
  simp only [Act.put]
  refine WL.nil ?_
  refine hK7 _ _ ?_
  refine wp_seq_k fun K8 hK8 => ?_
  obtain ⟨es, ck, c0, k0, pa, pn, pm, hes, hl1, hl2, hcs⟩ := look1 HD2.out.wait v.id
  obtain ⟨vv, hvv⟩ : ∃ a : Array Value, Keep (a = vtx c0 k0 (.slice pa pn pm)) := ⟨_, ⟨rfl⟩⟩
  rw [← hvv.out] at hl2
  have H1 := Keep.mk hl2
  have HC : Keep (c0 = v.id.f ∧ k0 = v.ck ∧ HRow w2 (.slice pa pn pm) v.ps) := ⟨hcs.elim (fun h => absurd (HF.out.symm.trans h.1) (by simp)) fun ⟨v', h, h2, h3, h4, _⟩ => by cases Option.some.inj (HF.out.symm.trans h); exact ⟨h2, h3, h4⟩⟩
  have hSB : Keep (∀ wx, Below w2.heap.size w2 wx → (fun wx => wx.cell? ⟨d, 4, none⟩ = some (.map (some g.wb)) ∧ wx.rangeAt bb 0 (bytesA 32 v.id.f).toList ∧ wx.heap[g.wb]? = some (.map es ck)) wx) := ⟨fun wx hb => ⟨(HD2.out.blk.below hb HD2.out.blk.lt).c 4 rfl, blk_rng (HX2.out.below hb HX2.out.lt), by rw [hb.block _ (Array.getElem?_eq_some_iff.1 hes).1]; exact hes⟩⟩
  have B3 : Keep (Below w2.heap.size w2 w2.drew) := ⟨(Below.refl _ _).drew⟩
  clear hl1 hl2 hcs hes
  refine wp_region_held_drew (S := fun wx => wx.cell? ⟨d, 4, none⟩ = some (.map (some g.wb)) ∧ wx.rangeAt bb 0 (bytesA 32 v.id.f).toList ∧ wx.heap[g.wb]? = some (.map es ck)) (by kernel_rfl) (hSB.out _ B3.out) (fun hHeld => ?_)
  refine wpAnyH_take (i := 0) (oi := ⟨some 16, Op.move (Operand.tmp 0), 27, _, _, none⟩) (v := .pointer (some ⟨d, 0, none⟩)) rfl (by kernel_rfl) (by kernel_rfl) (by kernel_rfl) (fun _ _ _ h => h) (Or.inl ⟨by rfl, fun w hS => by obtain ⟨hS1, hS2, hS3⟩ := hS; go_simp⟩) hHeld ?_
  simp only [Act.put, List.setIfInBounds_toArray, List.set_cons_zero, List.set_cons_succ]
  refine wpAnyH_take (i := 1) (oi := ⟨some 17, Op.nilCheck (Operand.tmp 16), 0, _, _, none⟩) (v := .pointer (some ⟨d, 0, none⟩)) rfl (by kernel_rfl) (by kernel_rfl) (by kernel_rfl) (fun _ _ _ h => h) (Or.inl ⟨by rfl, fun w hS => by obtain ⟨hS1, hS2, hS3⟩ := hS; go_simp⟩) hHeld ?_
  simp only [Act.put, List.setIfInBounds_toArray, List.set_cons_zero, List.set_cons_succ]
  refine wpAnyH_take (i := 2) (oi := ⟨some 18, Op.fieldAddr 77 (Operand.tmp 17) 4, 0, _, _, none⟩) (v := .pointer (some ⟨d, 4, none⟩)) rfl (by kernel_rfl) (by kernel_rfl) (by kernel_rfl) (fun _ _ _ h => h) (Or.inl ⟨by rfl, fun w hS => by obtain ⟨hS1, hS2, hS3⟩ := hS; go_simp⟩) hHeld ?_
  simp only [Act.put, List.setIfInBounds_toArray, List.set_cons_zero, List.set_cons_succ]
  refine wpAnyH_take (i := 3) (oi := ⟨some 19, Op.load 75 (Operand.tmp 18), 75, _, _, none⟩) (v := .map (some g.wb)) rfl (by kernel_rfl) (by kernel_rfl) (by kernel_rfl) (fun _ _ _ h => h) (Or.inl ⟨by rfl, fun w hS => by obtain ⟨hS1, hS2, hS3⟩ := hS; go_simp⟩) hHeld ?_
  simp only [Act.put, List.setIfInBounds_toArray, List.set_cons_zero, List.set_cons_succ]
  refine wpAnyH_take (i := 4) (oi := ⟨some 20, Op.load 36 (Operand.tmp 5), 36, _, _, none⟩) (v := .agg (bytesA 32 v.id.f)) rfl (by kernel_rfl) (by kernel_rfl) (by kernel_rfl) (fun _ _ _ h => h) (yieldsIf_ld (by rfl) (Operand.tmp 5) 36 rfl bb 0 rfl (bytesA 32 v.id.f) _ Try.underlying36 rfl (size36A _) fun w hS => hS.2.1) hHeld ?_
  simp only [Act.put, List.setIfInBounds_toArray, List.set_cons_zero, List.set_cons_succ]
  refine wpAnyH_take (i := 5) (oi := ⟨some 21, Op.lookup 75 (Operand.tmp 19) (Operand.tmp 20) false, 39, _, _, none⟩) (v := .agg vv) rfl (by kernel_rfl) (by kernel_rfl) (by kernel_rfl) (fun _ _ _ h => h) (yieldsIf_look (by rfl) (Operand.tmp 19) (Operand.tmp 20) false rfl g.wb v.id.f rfl rfl _ fun wx hS => H1.out wx hS.2.2) hHeld ?_
  simp only [Act.put, List.setIfInBounds_toArray, List.set_cons_zero, List.set_cons_succ]
  refine wpAnyH_ready (rs := [6]) (by kernel_rfl) (by simp) ?_
  refine AllReadyH.cons (o := ⟨some 6, Op.alloc 39, 0, _, _, none⟩) rfl (fun K hK => ?_) AllReadyH.nil
  rw [if_pos (by rfl)]
  refine wp_newA 39 rfl vz (by rw [hvz.out]; exact Try.new39) ?_
  have B4 := Keep.mk (B3.out.alloc (Nat.le_refl _) (.cells vz 39))
  obtain ⟨w4, hw4⟩ : ∃ wx, Keep (wx = w2.drew.alloc (.cells vz 39)) := ⟨_, ⟨rfl⟩⟩
  rw [← hw4.out]
  have HB4 : Keep (Blk w4 w2.drew.heap.size 39 vz) := ⟨by rw [hw4.out]; exact Blk.new _ _ _⟩
  have B4 : Keep (Below w2.heap.size w2 w4) := ⟨by rw [hw4.out]; exact B4.out⟩
  have hL4 : Keep (w2.heap.size ≤ w2.drew.heap.size) := ⟨Nat.le_refl _⟩
  clear hw4
  generalize w2.drew.heap.size = n1 at *
  refine hK _ _ (hSB.out _ B4.out) fun hH1 => ?_
  clear hK
  simp only [Act.put, List.setIfInBounds_toArray, List.set_cons_zero, List.set_cons_succ]
  refine wpAnyH_ready (rs := [7]) (by kernel_rfl) (by simp) ?_
  refine AllReadyH.cons (o := ⟨none, Op.store 39 (Operand.tmp 6) (Operand.tmp 21), 0, _, _, none⟩) rfl (fun K hK => ?_) AllReadyH.nil
  rw [if_pos (by rfl)]
  refine wp_store_row 39 (Operand.tmp 6) (Operand.tmp 21) rfl n1 vv rfl rfl 39 vz HB4.out (by rw [hvv.out]; exact Try.info39s _ _ _) (by rw [hvv.out, hvz.out, vtx_size, vtx_size]) (by rw [hvv.out]; exact vtx_one _ _ _ (slice_one _ _ _)) ?_
  have B5 := Keep.mk (below_setRow B4.out hL4.out vv)
  have HX5 := Keep.mk (HB4.out.setRow vv)
  refine hK _ _ (hSB.out _ B5.out) fun hH2 => ?_
  generalize w4.setRow n1 vv = w5 at *
  have HD5 := Keep.mk (HD2.out.below B5.out)
  have HZ5 := Keep.mk (HZ2.out.below B5.out HZ2.out.lt)
  have LB5 := Keep.mk (belowT LB2.out B5.out)
  have HR5 := Keep.mk (HC.out.2.2.below B5.out)
  obtain ⟨_, pm', hpf⟩ := HR5.out.form
  injection hpf with _ hpn _
  subst hpn
  have c33 : w5.cell? ⟨n1, 33, none⟩ = some (.slice pa v.ps.length pm) := HX5.out.c 33 (by rw [hvv.out]; exact vtx_ps _ _ _)
  clear hK hH1 HB4 B4 B3 hSB
  simp only [Act.put, List.setIfInBounds_toArray, List.set_cons_zero, List.set_cons_succ]
  refine wpAnyH_done (by kernel_rfl) ?_ _
  refine hK8 _ _ ?_
  refine wp_seq_k fun K9 hK9 => ?_
  refine wp_region_list (WL.out ?_)
  refine WL.val (by kernel_rfl) (.pointer (some ⟨d, 0, none⟩)) (by go_simp) ?_
  simp only [Act.put, List.setIfInBounds_toArray, List.set_cons_zero, List.set_cons_succ]
  refine WL.val (by kernel_rfl) (.pointer (some ⟨n1, 33, none⟩)) (by go_simp) ?_
  simp only [Act.put, List.setIfInBounds_toArray, List.set_cons_zero, List.set_cons_succ]
  refine WL.val (by kernel_rfl) (.slice pa v.ps.length pm) (by go_simp) ?_
  simp only [Act.put, List.setIfInBounds_toArray, List.set_cons_zero, List.set_cons_succ]
  clear c33
  have hal := hasAll_any d _ v.ps Av g w5 HD5.out HR5.out (by have := HL.out; omega)
  rw [HA.out] at hal
  refine WL.callF (by kernel_rfl) 68 _ _ rfl Try.in68 #[ptr d, .slice pa v.ps.length pm] (by simp [Act.eval]) ?_
  refine (hal).mono ?_
  rintro e w6 ⟨rfl, hz⟩
  refine ⟨_, rfl, ?_⟩
  clear hal
  have HX6 := Keep.mk (HX5.out.below hz HX5.out.lt)
  have HZ6 := Keep.mk (HZ5.out.below hz HZ5.out.lt)
  have LB6 := Keep.mk (belowT LB5.out hz)
  have HR6 := Keep.mk (HR5.out.below hz)
  clear hz
  simp only [Act.put, List.setIfInBounds_toArray, List.set_cons_zero, List.set_cons_succ]
  refine WL.nil ?_
  refine hK9 _ _ ?_
  refine wp_cond_true rfl ?_
  refine wp_seq_k fun K10 hK10 => ?_
  refine wp_region_list (WL.out ?_)
  refine WL.row (by kernel_rfl) 39 (.tmp 6) rfl n1 rfl 39 vv _ HX6.out Try.underlying39 rfl (by rw [hvv.out]; exact Try.info39s _ _ _) ?_
  simp only [Act.put, List.setIfInBounds_toArray, List.set_cons_zero, List.set_cons_succ]
  have how := own_any v _ w6 HR6.out (by have := HL.out; omega)
  rw [← HC.out.1, ← HC.out.2.1, ← hvv.out] at how
  refine WL.callF (by kernel_rfl) 59 _ _ rfl Try.in59 #[.agg vv] (by simp [Act.eval]) ?_
  refine (how).mono ?_
  rintro e w7 ⟨p7, rfl, hf⟩
  refine ⟨_, rfl, ?_⟩
  clear how
  have HF7 := Keep.mk hf
  have HZ7 := Keep.mk (HZ6.out.below hf.bel HZ6.out.lt)
  have LB7 := Keep.mk (belowT LB6.out hf.bel)
  obtain ⟨pa7, pc7, hp7⟩ := hf.own.sl
  have HP7 := Keep.mk hp7
  obtain ⟨vq, hvq⟩ : ∃ a : Array Value, Keep (a = vtx c0 k0 p7) := ⟨_, ⟨rfl⟩⟩
  have HI7 : Keep ((Try.prog.info? 39).map (·.size) = some vq.size) := ⟨by rw [hvq.out]; exact Try.info39s _ _ _⟩
  have HO7 : Keep (vq.all (·.oneCell') = true) := ⟨by rw [hvq.out, hp7]; exact vtx_one _ _ _ (slice_one _ _ _)⟩
  have HS7 : Keep (vz.size = vq.size) := ⟨by rw [hvq.out, hvz.out, vtx_size, vtx_size]⟩
  rw [← hvq.out]
  clear hf hp7 HX6 HR6
  simp only [Act.put, List.setIfInBounds_toArray, List.set_cons_zero, List.set_cons_succ]
  refine WL.storeR (by kernel_rfl) 39 (.tmp 2) (.tmp 27) rfl w.heap.size vq rfl rfl 39 vz HZ7.out HI7.out HS7.out HO7.out ?_
  have HZ8 := Keep.mk (HZ7.out.setRow vq)
  have LB8 := Keep.mk (below_setRow LB7.out (b := w.heap.size) (Nat.le_refl _) vq)
  generalize w7.setRow w.heap.size vq = w8 at *
  simp only [Act.put]
  refine WL.val (by kernel_rfl) (.bool true) (by go_simp) ?_
  simp only [Act.put, List.setIfInBounds_toArray, List.set_cons_zero, List.set_cons_succ]
  refine WL.nil ?_
  refine hK10 _ _ ?_
  refine wp_ret ?_
  try simp only [Exit.inBlock, Exit.then]
  refine bodyPost_ret (v := .tuple #[.agg vq, .bool true]) (results_cell_row2 Try.results35 _ _ w.heap.size 39 _ (0, 0) _ _ rfl rfl HZ8.out Try.underlying39 rfl HI7.out) rfl ?_
  exact ⟨pa7, _, pc7, by rw [hvq.out, HC.out.1, HC.out.2.1, HP7.out], LB8.out⟩
end Go.Proofs.Ytogmdfhicbmplaa
namespace Go.Proofs.Ytogmdfhicbmplaa
open Go.RowKit
set_option linter.unusedSimpArgs false
set_option linter.unusedVariables false

theorem Try.in33 (w : World) (vs : Array Value) : (callFunc 33 vs).run Try.prog w = .ok (.enter 33 vs) w := by kernel_rfl
theorem Try.in32 (w : World) (vs : Array Value) : (callFunc 32 vs).run Try.prog w = .ok (.enter 32 vs) w := by kernel_rfl
theorem Try.in30 (w : World) (vs : Array Value) : (callFunc 30 vs).run Try.prog w = .ok (.enter 30 vs) w := by kernel_rfl
theorem built5 (x : Int) : Try.prog.built 36 [(5, .int .u8 x), (6, .int .u8 102)] = some (bytesA 32 (upd (upd (fun _ => 0) 5 x) 6 102)) := by kernel_rfl
theorem built7 : Try.prog.built 36 [(7, .int .u8 119)] = some (bytesA 32 (upd (fun _ => 0) 7 119)) := by kernel_rfl
theorem OwnX.below {w w' : World} {v : Value} {n : Nat} (h : OwnX w v n) (hb : Below w.heap.size w w') : OwnX w' v n := by
  obtain ⟨xs, h⟩ := h
  exact ⟨xs, ownsH_below h hb⟩
set_option maxRecDepth 8000 in
set_option maxHeartbeats 1000000 in
theorem spoil_any (v : Value) (n : Nat) (w : World) (hO : OwnX w v n) (hn : n ≤ 1000000) : Calls Try.prog 33 #[v] w fun e w' => (∃ r, e = .returned r) ∧ Grown w w' fun k => v.ownBlock = some k := by
  obtain ⟨pa, pc, rfl⟩ := hO.sl
  have HO := Keep.mk hO
  have HN := Keep.mk hn
  clear hO hn
  go_enter Try.func33, Try.ntmps33
  refine wp_seq_k fun K1 hK1 => ?_
  refine wp_seq_k fun K2 hK2 => ?_
  refine wp_region_list (WL.out ?_)
  refine WL.val (by kernel_rfl) (.int .i64 0) (by go_simp) ?_
  simp only [Act.put, List.setIfInBounds_toArray, List.set_cons_zero, List.set_cons_succ]
  refine WL.nil ?_
  refine hK2 _ _ ?_
  refine wp_block ?_
  refine wp_loop (fun ac wr => ∃ (t : Nat) (u4 u5 u6 u7 u8 u9 u10 u11 u12 u13 u14 u15 : Value), ac = { tmps := #[.slice pa n pc, undef, .int .i64 (t : Int), undef, u4, u5, u6, u7, u8, u9, u10, u11, u12, u13, u14, u15, undef, undef, undef, undef, undef, undef, undef, undef], defers := [] } ∧ t ≤ n ∧ OwnX wr (.slice pa n pc) n ∧ (Grown w wr fun k => (Value.slice pa n pc).ownBlock = some k)) (fun a _ => n - (intOf (a.tmps.getD 2 undef)).toNat) ⟨0, undef, undef, undef, undef, undef, undef, undef, undef, undef, undef, undef, undef, rfl, by omega, HO.out, Grown.refl _ _⟩ ?_
  rintro ac wr ⟨t, u4, u5, u6, u7, u8, u9, u10, u11, u12, u13, u14, u15, rfl, ht, hO, hG⟩
  have JO := Keep.mk hO
  have JG := Keep.mk hG
  clear hO hG
  by_cases htl : t < n
  · have htl' : (t : Int) < (n : Int) := by omega
    have hwt : IntKind.i64.wrap ((t : Int) + 1) = ((t + 1 : Nat) : Int) := by rw [IntKind.wrap_i64]; have := HN.out; omega
    obtain ⟨g, cur, hpa, -, hcb, hcc, hcm, hcs⟩ := JO.out.at (by omega)
    subst hpa
    have HC : Keep (Blk wr g 36 cur ∧ n ≤ pc ∧ pc ≤ maxLen ∧ cur.size = pc * 32) := ⟨⟨hcb, hcc, hcm, hcs⟩⟩
    clear hcb hcc hcm hcs
    obtain ⟨cc, hcc⟩ : ∃ a : Array Value, Keep (a = bytesA 32 (upd (upd (fun _ => 0) 5 (IntKind.u8.wrap (t : Int))) 6 102)) := ⟨_, ⟨rfl⟩⟩
    refine wp_seq_k fun K3 hK3 => ?_
    refine wp_seq_k fun K4 hK4 => ?_
    refine wp_region_list (WL.out ?_)
    refine WL.val (by kernel_rfl) (.int .i64 (t : Int)) (by go_simp) ?_
    simp only [Act.put, List.setIfInBounds_toArray, List.set_cons_zero, List.set_cons_succ]
    refine WL.val (by kernel_rfl) (.slice (some ⟨g, 0, none⟩) n pc) (by go_simp) ?_
    simp only [Act.put, List.setIfInBounds_toArray, List.set_cons_zero, List.set_cons_succ]
    refine WL.val (by kernel_rfl) (.int .i64 (n : Int)) (by go_simp) ?_
    simp only [Act.put, List.setIfInBounds_toArray, List.set_cons_zero, List.set_cons_succ]
    refine WL.val (by kernel_rfl) (.bool true) (by go_simp) ?_
    simp only [Act.put, List.setIfInBounds_toArray, List.set_cons_zero, List.set_cons_succ]
    refine WL.nil ?_
    refine hK4 _ _ ?_
    refine wp_cond_true rfl ?_
    refine wp_skip ?_
    refine hK3 _ _ ?_
    refine wp_seq_k fun K5 hK5 => ?_
    refine wp_block ?_
    refine wp_region_list (WL.out ?_)
    refine WL.val (by kernel_rfl) (.slice (some ⟨g, 0, none⟩) n pc) (by go_simp) ?_
    simp only [Act.put, List.setIfInBounds_toArray, List.set_cons_zero, List.set_cons_succ]
    refine WL.val (by kernel_rfl) (.int .i64 (t : Int)) (by go_simp) ?_
    simp only [Act.put, List.setIfInBounds_toArray, List.set_cons_zero, List.set_cons_succ]
    refine WL.val (by kernel_rfl) (.int .i64 (t : Int)) (by go_simp) ?_
    simp only [Act.put, List.setIfInBounds_toArray, List.set_cons_zero, List.set_cons_succ]
    refine WL.val (by kernel_rfl) (.int .u8 (IntKind.u8.wrap (t : Int))) (by go_simp) ?_
    simp only [Act.put, List.setIfInBounds_toArray, List.set_cons_zero, List.set_cons_succ]
    refine WL.bld (by kernel_rfl) 36 _ rfl [(5, .int .u8 (IntKind.u8.wrap (t : Int))), (6, .int .u8 102)] (by simp [Act.eval]) cc (by rw [hcc.out]; exact built5 _) ?_
    simp only [Act.put, List.setIfInBounds_toArray, List.set_cons_zero, List.set_cons_succ]
    refine WL.val (by kernel_rfl) (.pointer (some ⟨g, t * 32, none⟩)) (by go_simp) ?_
    simp only [Act.put, List.setIfInBounds_toArray, List.set_cons_zero, List.set_cons_succ]
    have hfit : t * 32 + cc.size ≤ cur.size := by rw [hcc.out, bytesA_size, HC.out.2.2.2]; have := HC.out.2.1; omega
    refine WL.part (by kernel_rfl) 36 (.tmp 15) (.tmp 14) rfl g (t * 32) cc rfl rfl 36 cur HC.out.1 (by rw [hcc.out]; exact Try.size36B _) hfit (by rw [hcc.out]; exact bytesA_one _ _) _ rfl ?_
    have K1 : Keep (OwnX (wr.setRow g (cur.toList.take (t * 32) ++ cc.toList ++ cur.toList.drop (t * 32 + cc.size)).toArray) (.slice (some ⟨g, 0, none⟩) n pc) n) := ⟨ownX_mk (HC.out.1.setRow _) HC.out.2.1 HC.out.2.2.1 (by simp only [List.size_toArray, List.length_append, List.length_take, List.length_drop, Array.length_toList]; have := HC.out.2.2.2; omega)⟩
    have KG : Keep (Grown w (wr.setRow g (cur.toList.take (t * 32) ++ cc.toList ++ cur.toList.drop (t * 32 + cc.size)).toArray) fun k => (Value.slice (some ⟨g, 0, none⟩) n pc).ownBlock = some k) := ⟨JG.out.trans (Grown.setRow wr g _ fun _ => rfl)⟩
    clear hfit
    generalize wr.setRow g (cur.toList.take (t * 32) ++ cc.toList ++ cur.toList.drop (t * 32 + cc.size)).toArray = w4 at *
    simp only [Act.put]
    refine WL.nil ?_
    refine hK5 _ _ ?_
    refine wp_region_list (WL.out ?_)
    refine WL.val (by kernel_rfl) (.int .i64 (t : Int)) (by go_simp) ?_
    simp only [Act.put, List.setIfInBounds_toArray, List.set_cons_zero, List.set_cons_succ]
    refine WL.val (by kernel_rfl) (.int .i64 ((t + 1 : Nat) : Int)) (by go_simp) ?_
    simp only [Act.put, List.setIfInBounds_toArray, List.set_cons_zero, List.set_cons_succ]
    refine WL.val (by kernel_rfl) (.int .i64 ((t + 1 : Nat) : Int)) (by go_simp) ?_
    simp only [Act.put, List.setIfInBounds_toArray, List.set_cons_zero, List.set_cons_succ]
    refine WL.nil ?_
    refine ⟨⟨t + 1, .int .i64 (t : Int), .slice (some ⟨g, 0, none⟩) n pc, .int .i64 (n : Int), .bool true, .int .i64 (t : Int), .int .i64 ((t + 1 : Nat) : Int), .slice (some ⟨g, 0, none⟩) n pc, .int .i64 (t : Int), .int .i64 (t : Int), .int .u8 (IntKind.u8.wrap (t : Int)), .agg cc, .pointer (some ⟨g, t * 32, none⟩), rfl, by omega, K1.out, KG.out⟩, ?_⟩
    simp only [intOf]; show n - (((t + 1 : Nat) : Int)).toNat < n - ((t : Int)).toNat; omega
  · have htl' : ¬ (t : Int) < (n : Int) := by omega
    refine wp_seq_k fun K6 hK6 => ?_
    refine wp_seq_k fun K7 hK7 => ?_
    refine wp_region_list (WL.out ?_)
    refine WL.val (by kernel_rfl) (.int .i64 (t : Int)) (by go_simp) ?_
    simp only [Act.put, List.setIfInBounds_toArray, List.set_cons_zero, List.set_cons_succ]
    refine WL.val (by kernel_rfl) (.slice pa n pc) (by go_simp) ?_
    simp only [Act.put, List.setIfInBounds_toArray, List.set_cons_zero, List.set_cons_succ]
    refine WL.val (by kernel_rfl) (.int .i64 (n : Int)) (by go_simp) ?_
    simp only [Act.put, List.setIfInBounds_toArray, List.set_cons_zero, List.set_cons_succ]
    refine WL.val (by kernel_rfl) (.bool false) (by go_simp) ?_
    simp only [Act.put, List.setIfInBounds_toArray, List.set_cons_zero, List.set_cons_succ]
    refine WL.nil ?_
    refine hK7 _ _ ?_
    refine wp_cond_false rfl ?_
    refine wp_exit ?_
    refine hK1 _ _ ?_
    refine wp_seq_k fun K8 hK8 => ?_
    refine wp_region_list (WL.out ?_)
    refine WL.val (by kernel_rfl) (.int .i64 0) (by go_simp) ?_
    simp only [Act.put, List.setIfInBounds_toArray, List.set_cons_zero, List.set_cons_succ]
    refine WL.nil ?_
    refine hK8 _ _ ?_
    refine wp_block ?_
    refine wp_loop (fun ac wi => ∃ (j : Nat) (z0 z16 z17 z18 z19 z20 z21 z22 z23 : Value), ac = { tmps := #[z0, undef, .int .i64 (t : Int), .int .i64 (j : Int), .int .i64 (t : Int), .slice pa n pc, .int .i64 (n : Int), .bool false, u8, u9, u10, u11, u12, u13, u14, u15, z16, z17, z18, z19, z20, z21, z22, z23], defers := [] } ∧ j ≤ 20 ∧ OwnX wi z0 (n + j) ∧ (Grown w wi fun k => (Value.slice pa n pc).ownBlock = some k) ∧ Moved w (.slice pa n pc) z0) (fun a _ => 20 - (intOf (a.tmps.getD 3 undef)).toNat) ⟨0, .slice pa n pc, undef, undef, undef, undef, undef, undef, undef, undef, rfl, by omega, JO.out, JG.out, .inl rfl⟩ ?_
    rintro ac wi ⟨j, z0, z16, z17, z18, z19, z20, z21, z22, z23, rfl, hj, hO, hG, hM⟩
    have KO := Keep.mk hO
    have KG := Keep.mk hG
    have KM := Keep.mk hM
    clear hO hG hM
    by_cases hjl : j < 20
    · have hjl' : (j : Int) < 20 := by omega
      have hwj : IntKind.i64.wrap ((j : Int) + 1) = ((j + 1 : Nat) : Int) := by rw [IntKind.wrap_i64]; omega
      obtain ⟨cc, hcc⟩ : ∃ a : Array Value, Keep (a = bytesA 32 (upd (fun _ => 0) 7 119)) := ⟨_, ⟨rfl⟩⟩
      refine wp_seq_k fun K9 hK9 => ?_
      refine wp_seq_k fun K10 hK10 => ?_
      refine wp_region_list (WL.out ?_)
      refine WL.val (by kernel_rfl) (.int .i64 (j : Int)) (by go_simp) ?_
      simp only [Act.put, List.setIfInBounds_toArray, List.set_cons_zero, List.set_cons_succ]
      refine WL.val (by kernel_rfl) (.bool true) (by go_simp) ?_
      simp only [Act.put, List.setIfInBounds_toArray, List.set_cons_zero, List.set_cons_succ]
      refine WL.nil ?_
      refine hK10 _ _ ?_
      refine wp_cond_true rfl ?_
      refine wp_skip ?_
      refine hK9 _ _ ?_
      refine wp_seq_k fun K11 hK11 => ?_
      refine wp_block ?_
      refine wp_region_list (WL.out ?_)
      refine WL.val (by kernel_rfl) (z0) (by go_simp) ?_
      simp only [Act.put, List.setIfInBounds_toArray, List.set_cons_zero, List.set_cons_succ]
      refine WL.bld (by kernel_rfl) 36 _ rfl [(7, .int .u8 119)] (by simp [Act.eval]) cc (by rw [hcc.out]; exact built7) ?_
      simp only [Act.put, List.setIfInBounds_toArray, List.set_cons_zero, List.set_cons_succ]
      refine WL.bs (by kernel_rfl) 37 1 _ rfl #[(0, .agg cc)] (by simp [Act.eval]) _ _ (by rw [hcc.out]; exact Try.bs1 _ wi) ?_
      rw [← hcc.out]
      have HGy := Keep.mk (Blk.new wi 36 cc)
      have B5 := Keep.mk (below_new wi (.cells cc 36))
      generalize wi.alloc (.cells cc 36) = w5 at *
      have KO5 : Keep (OwnX w5 z0 (n + j)) := ⟨OwnX.below KO.out B5.out⟩
      have KG5 : Keep (Grown w w5 fun k => (Value.slice pa n pc).ownBlock = some k) := ⟨KG.out.trans (Grown.below B5.out)⟩
      generalize wi.heap.size = gy at *
      simp only [Act.put, List.setIfInBounds_toArray, List.set_cons_zero, List.set_cons_succ]
      refine WL.appX (by kernel_rfl) (.tmp 20) (.tmp 22) rfl z0 (n + j) gy cc rfl rfl KO5.out HGy.out (by rw [hcc.out, bytesA_size]) (by rw [hcc.out]; exact bytesA_one _ _) (by have := HN.out; omega) fun v6 w6 h1 h2 h3 => ?_
      have L1 := Keep.mk h1
      have LG : Keep (Grown w w6 fun k => (Value.slice pa n pc).ownBlock = some k) := ⟨KG5.out.next h2 fun i hi e => KM.out.old hi e⟩
      have LM : Keep (Moved w (.slice pa n pc) v6) := ⟨KM.out.trans KG5.out.size h3⟩
      clear h1 h2 h3
      simp only [Act.put, List.setIfInBounds_toArray, List.set_cons_zero, List.set_cons_succ]
      refine WL.val (by kernel_rfl) (v6) (by go_simp) ?_
      simp only [Act.put, List.setIfInBounds_toArray, List.set_cons_zero, List.set_cons_succ]
      refine WL.nil ?_
      refine hK11 _ _ ?_
      refine wp_region_list (WL.out ?_)
      refine WL.val (by kernel_rfl) (.int .i64 (j : Int)) (by go_simp) ?_
      simp only [Act.put, List.setIfInBounds_toArray, List.set_cons_zero, List.set_cons_succ]
      refine WL.val (by kernel_rfl) (.int .i64 ((j + 1 : Nat) : Int)) (by go_simp) ?_
      simp only [Act.put, List.setIfInBounds_toArray, List.set_cons_zero, List.set_cons_succ]
      refine WL.val (by kernel_rfl) (.int .i64 ((j + 1 : Nat) : Int)) (by go_simp) ?_
      simp only [Act.put, List.setIfInBounds_toArray, List.set_cons_zero, List.set_cons_succ]
      refine WL.nil ?_
      refine ⟨⟨j + 1, v6, .int .i64 (j : Int), .bool true, .int .i64 (j : Int), .int .i64 ((j + 1 : Nat) : Int), z0, .agg cc, .slice (some ⟨gy, 0, none⟩) 1 1, v6, rfl, by omega, L1.out, LG.out, LM.out⟩, ?_⟩
      simp only [intOf]; show 20 - (((j + 1 : Nat) : Int)).toNat < 20 - ((j : Int)).toNat; omega
    · have hjl' : ¬ (j : Int) < 20 := by omega
      refine wp_seq_k fun K12 hK12 => ?_
      refine wp_seq_k fun K13 hK13 => ?_
      refine wp_region_list (WL.out ?_)
      refine WL.val (by kernel_rfl) (.int .i64 (j : Int)) (by go_simp) ?_
      simp only [Act.put, List.setIfInBounds_toArray, List.set_cons_zero, List.set_cons_succ]
      refine WL.val (by kernel_rfl) (.bool false) (by go_simp) ?_
      simp only [Act.put, List.setIfInBounds_toArray, List.set_cons_zero, List.set_cons_succ]
      refine WL.nil ?_
      refine hK13 _ _ ?_
      refine wp_cond_false rfl ?_
      refine wp_exit ?_
      simp only [Exit.inBlock, Exit.then, eq_self, if_true]
      go_end0
      exact ⟨⟨_, rfl⟩, KG.out⟩
set_option maxRecDepth 8000 in
set_option maxHeartbeats 1000000 in
theorem sameLs_any (B1 B2 : Nat) (v1 v2 : Value) (g1 g2 : Nat) (V1 V2 : Nat → Value) (L M : Nat → List Hs) (w : World) (h1 : LsAt w B1 v1 g1 V1 L) (h2 : LsAt w B2 v2 g2 V2 M) (hE : ∀ i, i < 6 → L i = M i) (hL : ∀ i, i < 6 → (L i).length ≤ 4096) : Calls Try.prog 32 #[v1, v2] w fun e w' => e = .returned (.bool true) ∧ Below w.heap.size w w' := by
  obtain ⟨c1, rfl⟩ := h1.eq
  obtain ⟨c2, rfl⟩ := h2.eq
  have H1 := Keep.mk h1
  have H2 := Keep.mk h2
  have HE := Keep.mk hE
  have HL := Keep.mk hL
  clear h1 h2 hE hL
  go_enter Try.func32, Try.ntmps32
  refine wp_seq_k fun K1 hK1 => ?_
  refine wp_region_list (WL.out ?_)
  refine WL.val (by kernel_rfl) (.bool false) (by go_simp) ?_
  simp only [Act.put, List.setIfInBounds_toArray, List.set_cons_zero, List.set_cons_succ]
  refine WL.nil ?_
  refine hK1 _ _ ?_
  refine wp_seq_k fun K2 hK2 => ?_
  refine wp_seq_k fun K3 hK3 => ?_
  refine wp_region_list (WL.out ?_)
  refine WL.val (by kernel_rfl) (.int .i64 0) (by go_simp) ?_
  simp only [Act.put, List.setIfInBounds_toArray, List.set_cons_zero, List.set_cons_succ]
  refine WL.nil ?_
  refine hK3 _ _ ?_
  refine wp_block ?_
  refine wp_loop (fun ac wr => ∃ (t : Nat) (u4 u6 u7 u8 u9 u10 u11 u12 u13 u14 u15 u16 u17 u18 u19 u20 u21 : Value), ac = { tmps := #[.slice (some ⟨g1, 0, none⟩) 6 c1, .slice (some ⟨g2, 0, none⟩) 6 c2, undef, undef, u4, .int .i64 (t : Int), u6, u7, u8, u9, u10, u11, u12, u13, u14, u15, u16, u17, u18, u19, u20, u21, undef, undef, undef, undef, undef], defers := [] } ∧ t ≤ 6 ∧ Below w.heap.size w wr) (fun a _ => 6 - (intOf (a.tmps.getD 5 undef)).toNat) ⟨0, .bool false, undef, undef, undef, undef, undef, undef, undef, undef, undef, undef, undef, undef, undef, undef, undef, undef, rfl, by omega, Below.refl _ _⟩ ?_
  rintro ac wr ⟨t, u4, u6, u7, u8, u9, u10, u11, u12, u13, u14, u15, u16, u17, u18, u19, u20, u21, rfl, ht, hB⟩
  have JB := Keep.mk hB
  clear hB
  by_cases htl : t < 6
  · have htl' : (t : Int) < 6 := by omega
    have hwt : IntKind.i64.wrap ((t : Int) + 1) = ((t + 1 : Nat) : Int) := by rw [IntKind.wrap_i64]; omega
    have A1 := Keep.mk (H1.out.below JB.out)
    have A2 := Keep.mk (H2.out.below JB.out)
    obtain ⟨pa, pc, e1⟩ := (A1.out.own t htl).sl
    obtain ⟨qa, qc, e2⟩ := (A2.out.own t htl).sl
    have C1 : Keep (wr.cell? ⟨g1, t, none⟩ = some (.slice pa (L t).length pc)) := ⟨by rw [← e1]; exact A1.out.cell t htl⟩
    have C2 : Keep (wr.cell? ⟨g2, t, none⟩ = some (.slice qa (M t).length qc)) := ⟨by rw [← e2]; exact A2.out.cell t htl⟩
    have O1 : Keep (OwnH wr (.slice pa (L t).length pc) (L t)) := ⟨by rw [← e1]; exact A1.out.own t htl⟩
    have O2 : Keep (OwnH wr (.slice qa (M t).length qc) (M t)) := ⟨by rw [← e2]; exact A2.out.own t htl⟩
    clear e1 e2 A1 A2
    refine wp_seq_k fun K4 hK4 => ?_
    refine wp_seq_k fun K5 hK5 => ?_
    refine wp_region_list (WL.out ?_)
    refine WL.val (by kernel_rfl) (.int .i64 (t : Int)) (by go_simp) ?_
    simp only [Act.put, List.setIfInBounds_toArray, List.set_cons_zero, List.set_cons_succ]
    refine WL.val (by kernel_rfl) (.slice (some ⟨g1, 0, none⟩) 6 c1) (by go_simp) ?_
    simp only [Act.put, List.setIfInBounds_toArray, List.set_cons_zero, List.set_cons_succ]
    refine WL.val (by kernel_rfl) (.int .i64 6) (by go_simp) ?_
    simp only [Act.put, List.setIfInBounds_toArray, List.set_cons_zero, List.set_cons_succ]
    refine WL.val (by kernel_rfl) (.bool true) (by go_simp) ?_
    simp only [Act.put, List.setIfInBounds_toArray, List.set_cons_zero, List.set_cons_succ]
    refine WL.nil ?_
    refine hK5 _ _ ?_
    refine wp_cond_true rfl ?_
    refine wp_skip ?_
    refine hK4 _ _ ?_
    refine wp_seq_k fun K6 hK6 => ?_
    refine wp_block ?_
    refine wp_seq_k fun K7 hK7 => ?_
    refine wp_region_held_drew (S := fun wx => wx.cell? ⟨g1, t, none⟩ = some (.slice pa (L t).length pc) ∧ wx.cell? ⟨g2, t, none⟩ = some (.slice qa (M t).length qc)) (by kernel_rfl) (⟨C1.out, C2.out⟩) (fun hHeld => ?_)
    refine wpAnyH_take (i := 0) (oi := ⟨some 12, Op.move (Operand.tmp 0), 65, _, _, none⟩) (v := .slice (some ⟨g1, 0, none⟩) 6 c1) rfl (by kernel_rfl) (by kernel_rfl) (by kernel_rfl) (fun _ _ _ h => h) (Or.inl ⟨by rfl, fun w hS => by obtain ⟨hS1, hS2⟩ := hS; go_simp⟩) hHeld ?_
    simp only [Act.put, List.setIfInBounds_toArray, List.set_cons_zero, List.set_cons_succ]
    refine wpAnyH_take (i := 1) (oi := ⟨some 13, Op.move (Operand.tmp 5), 3, _, _, none⟩) (v := .int .i64 (t : Int)) rfl (by kernel_rfl) (by kernel_rfl) (by kernel_rfl) (fun _ _ _ h => h) (Or.inl ⟨by rfl, fun w hS => by obtain ⟨hS1, hS2⟩ := hS; go_simp⟩) hHeld ?_
    simp only [Act.put, List.setIfInBounds_toArray, List.set_cons_zero, List.set_cons_succ]
    refine wpAnyH_take (i := 2) (oi := ⟨some 14, Op.indexAddr 65 (Operand.tmp 12) (Operand.tmp 13), 0, _, _, none⟩) (v := .pointer (some ⟨g1, t, none⟩)) rfl (by kernel_rfl) (by kernel_rfl) (by kernel_rfl) (fun _ _ _ h => h) (Or.inl ⟨by rfl, fun w hS => by obtain ⟨hS1, hS2⟩ := hS; go_simp⟩) hHeld ?_
    simp only [Act.put, List.setIfInBounds_toArray, List.set_cons_zero, List.set_cons_succ]
    refine wpAnyH_take (i := 3) (oi := ⟨some 15, Op.load 37 (Operand.tmp 14), 37, _, _, none⟩) (v := .slice pa (L t).length pc) rfl (by kernel_rfl) (by kernel_rfl) (by kernel_rfl) (fun _ _ _ h => h) (Or.inl ⟨by rfl, fun w hS => by obtain ⟨hS1, hS2⟩ := hS; go_simp⟩) hHeld ?_
    simp only [Act.put, List.setIfInBounds_toArray, List.set_cons_zero, List.set_cons_succ]
    refine wpAnyH_take (i := 4) (oi := ⟨some 16, Op.move (Operand.tmp 1), 65, _, _, none⟩) (v := .slice (some ⟨g2, 0, none⟩) 6 c2) rfl (by kernel_rfl) (by kernel_rfl) (by kernel_rfl) (fun _ _ _ h => h) (Or.inl ⟨by rfl, fun w hS => by obtain ⟨hS1, hS2⟩ := hS; go_simp⟩) hHeld ?_
    simp only [Act.put, List.setIfInBounds_toArray, List.set_cons_zero, List.set_cons_succ]
    refine wpAnyH_take (i := 5) (oi := ⟨some 17, Op.move (Operand.tmp 5), 3, _, _, none⟩) (v := .int .i64 (t : Int)) rfl (by kernel_rfl) (by kernel_rfl) (by kernel_rfl) (fun _ _ _ h => h) (Or.inl ⟨by rfl, fun w hS => by obtain ⟨hS1, hS2⟩ := hS; go_simp⟩) hHeld ?_
    simp only [Act.put, List.setIfInBounds_toArray, List.set_cons_zero, List.set_cons_succ]
    refine wpAnyH_take (i := 6) (oi := ⟨some 18, Op.indexAddr 65 (Operand.tmp 16) (Operand.tmp 17), 0, _, _, none⟩) (v := .pointer (some ⟨g2, t, none⟩)) rfl (by kernel_rfl) (by kernel_rfl) (by kernel_rfl) (fun _ _ _ h => h) (Or.inl ⟨by rfl, fun w hS => by obtain ⟨hS1, hS2⟩ := hS; go_simp⟩) hHeld ?_
    simp only [Act.put, List.setIfInBounds_toArray, List.set_cons_zero, List.set_cons_succ]
    refine wpAnyH_take (i := 7) (oi := ⟨some 19, Op.load 37 (Operand.tmp 18), 37, _, _, none⟩) (v := .slice qa (M t).length qc) rfl (by kernel_rfl) (by kernel_rfl) (by kernel_rfl) (fun _ _ _ h => h) (Or.inl ⟨by rfl, fun w hS => by obtain ⟨hS1, hS2⟩ := hS; go_simp⟩) hHeld ?_
    simp only [Act.put, List.setIfInBounds_toArray, List.set_cons_zero, List.set_cons_succ]
    refine wpAnyH_ready (rs := [8]) (by kernel_rfl) (by simp) ?_
    refine AllReadyH.cons (o := ⟨some 20, Op.call { callee := Callee.value (Operand.func 19), args := #[Operand.tmp 15, Operand.tmp 19], argTypes := #[37, 37] }, 4, _, _, none⟩) rfl (fun K hK => ?_) AllReadyH.nil
    rw [if_pos (by rfl)]
    have hsm := smH_any (.slice pa (L t).length pc) (.slice qa (M t).length qc) (L t) (M t) wr.drew (O1.out.below (Below.refl _ _).drew).row (O2.out.below (Below.refl _ _).drew).row (by have := HL.out t htl; omega)
    rw [decide_eq_true (HE.out t htl)] at hsm
    refine wp_callF 19 _ _ rfl Try.in19 #[.slice pa (L t).length pc, .slice qa (M t).length qc] (by simp [Act.eval]) (fun u wx => u = .bool true ∧ Below wr.drew.heap.size wr.drew wx) (hsm.mono fun e w' ⟨h1, h2⟩ => ⟨_, h1, rfl, h2⟩) ?_
    clear hsm
    rintro _ w5 ⟨rfl, hb⟩
    have B5 : Keep (Below w.heap.size w w5) := ⟨belowT JB.out.drew hb⟩
    refine hK _ _ ⟨cell_grown C1.out (Grown.below (S := fun _ => False) (belowT (Below.refl _ wr).drew hb)) (fun e => e), cell_grown C2.out (Grown.below (S := fun _ => False) (belowT (Below.refl _ wr).drew hb)) (fun e => e)⟩ fun hH1 => ?_
    clear hK hb
    simp only [Act.put, List.setIfInBounds_toArray, List.set_cons_zero, List.set_cons_succ]
    refine wpAnyH_take (i := 9) (oi := ⟨some 21, Op.unOp UnOp.not 4 (Operand.tmp 20), 4, _, _, none⟩) (v := .bool false) rfl (by kernel_rfl) (by kernel_rfl) (by kernel_rfl) (fun _ _ _ h => h) (Or.inl ⟨by rfl, fun w hS => by obtain ⟨hS1, hS2⟩ := hS; go_simp⟩) hH1 ?_
    simp only [Act.put, List.setIfInBounds_toArray, List.set_cons_zero, List.set_cons_succ]
    refine wpAnyH_done (by kernel_rfl) ?_ _
    refine hK7 _ _ ?_
    refine wp_cond_false rfl ?_
    refine wp_skip ?_
    refine hK6 _ _ ?_
    refine wp_region_list (WL.out ?_)
    refine WL.val (by kernel_rfl) (.int .i64 (t : Int)) (by go_simp) ?_
    simp only [Act.put, List.setIfInBounds_toArray, List.set_cons_zero, List.set_cons_succ]
    refine WL.val (by kernel_rfl) (.int .i64 ((t + 1 : Nat) : Int)) (by go_simp) ?_
    simp only [Act.put, List.setIfInBounds_toArray, List.set_cons_zero, List.set_cons_succ]
    refine WL.val (by kernel_rfl) (.int .i64 ((t + 1 : Nat) : Int)) (by go_simp) ?_
    simp only [Act.put, List.setIfInBounds_toArray, List.set_cons_zero, List.set_cons_succ]
    refine WL.nil ?_
    refine ⟨⟨t + 1, u4, .int .i64 (t : Int), .slice (some ⟨g1, 0, none⟩) 6 c1, .int .i64 6, .bool true, .int .i64 (t : Int), .int .i64 ((t + 1 : Nat) : Int), .slice (some ⟨g1, 0, none⟩) 6 c1, .int .i64 (t : Int), .pointer (some ⟨g1, t, none⟩), .slice pa (L t).length pc, .slice (some ⟨g2, 0, none⟩) 6 c2, .int .i64 (t : Int), .pointer (some ⟨g2, t, none⟩), .slice qa (M t).length qc, .bool true, .bool false, rfl, by omega, B5.out⟩, ?_⟩
    simp only [intOf]; show 6 - (((t + 1 : Nat) : Int)).toNat < 6 - ((t : Int)).toNat; omega
  · have htl' : ¬ (t : Int) < 6 := by omega
    refine wp_seq_k fun K8 hK8 => ?_
    refine wp_seq_k fun K9 hK9 => ?_
    refine wp_region_list (WL.out ?_)
    refine WL.val (by kernel_rfl) (.int .i64 (t : Int)) (by go_simp) ?_
    simp only [Act.put, List.setIfInBounds_toArray, List.set_cons_zero, List.set_cons_succ]
    refine WL.val (by kernel_rfl) (.slice (some ⟨g1, 0, none⟩) 6 c1) (by go_simp) ?_
    simp only [Act.put, List.setIfInBounds_toArray, List.set_cons_zero, List.set_cons_succ]
    refine WL.val (by kernel_rfl) (.int .i64 6) (by go_simp) ?_
    simp only [Act.put, List.setIfInBounds_toArray, List.set_cons_zero, List.set_cons_succ]
    refine WL.val (by kernel_rfl) (.bool false) (by go_simp) ?_
    simp only [Act.put, List.setIfInBounds_toArray, List.set_cons_zero, List.set_cons_succ]
    refine WL.nil ?_
    refine hK9 _ _ ?_
    refine wp_cond_false rfl ?_
    refine wp_exit ?_
    refine hK2 _ _ ?_
    refine wp_seq_k fun K10 hK10 => ?_
    refine wp_region_list (WL.out ?_)
    refine WL.val (by kernel_rfl) (.slice (some ⟨g1, 0, none⟩) 6 c1) (by go_simp) ?_
    simp only [Act.put, List.setIfInBounds_toArray, List.set_cons_zero, List.set_cons_succ]
    refine WL.val (by kernel_rfl) (.int .i64 6) (by go_simp) ?_
    simp only [Act.put, List.setIfInBounds_toArray, List.set_cons_zero, List.set_cons_succ]
    refine WL.val (by kernel_rfl) (.slice (some ⟨g2, 0, none⟩) 6 c2) (by go_simp) ?_
    simp only [Act.put, List.setIfInBounds_toArray, List.set_cons_zero, List.set_cons_succ]
    refine WL.val (by kernel_rfl) (.int .i64 6) (by go_simp) ?_
    simp only [Act.put, List.setIfInBounds_toArray, List.set_cons_zero, List.set_cons_succ]
    refine WL.val (by kernel_rfl) (.bool true) (by go_simp) ?_
    simp only [Act.put, List.setIfInBounds_toArray, List.set_cons_zero, List.set_cons_succ]
    refine WL.val (by kernel_rfl) (.bool true) (by go_simp) ?_
    simp only [Act.put, List.setIfInBounds_toArray, List.set_cons_zero, List.set_cons_succ]
    refine WL.nil ?_
    refine hK10 _ _ ?_
    refine wp_ret ?_
    go_ret
    exact ⟨rfl, JB.out⟩
end Go.Proofs.Ytogmdfhicbmplaa
namespace Go.Proofs.Ytogmdfhicbmplaa
open Go.RowKit
set_option linter.unusedSimpArgs false
set_option linter.unusedVariables false

theorem nx_facts {g : DG} (h : DI g) : (∀ x ∈ g.queue, ∃ v, g.wait.find? (isV x) = some v) ∧ (∀ v ∈ g.wait, v.ps.length ≤ 4398046511104) ∧ g.queue.length ≤ 1000000000 := by
  refine ⟨fun x hx => ?_, fun v hv => by have := chk_ok (h.wc v hv); omega, by have := h.qlen; have := h.wl; omega⟩
  rw [h.q] at hx
  obtain ⟨v, hv, rfl⟩ := List.mem_map.1 hx
  exact ⟨v, find_mem h.wn hv⟩
end Go.Proofs.Ytogmdfhicbmplaa
namespace Go.Proofs.Ytogmdfhicbmplaa
open Go.RowKit
set_option linter.unusedSimpArgs false
set_option linter.unusedVariables false

theorem parP_any (B0 d : Nat) (x : Hs) (g : DG) (w : World) (hD : DS B0 w d g) : Calls Try.prog 26 #[ptr d, .agg (bytesA 32 x.f)] w fun e w' => ∃ v' er, e = .returned (.tuple #[v', .int .i64 er]) ∧ Fresh w w' v' (parH g.held x) := by
  refine (parents_any d x (DgS d g) g w hD.at' (fun v hv => by have := chk_ok (hD.di.hc v (List.mem_of_find?_eq_some hv)); omega)).mono ?_
  rintro e w' (⟨h1, rfl, hb⟩ | ⟨v, h1, v', rfl, hf⟩)
  · exact ⟨_, 6, rfl, by unfold parH; rw [h1]; exact ⟨ownH_nil _, (fun k hk => by cases hk), hb⟩⟩
  · exact ⟨v', 0, rfl, by unfold parH; rw [h1]; exact hf⟩
theorem nxP_any (B0 d : Nat) (g : DG) (w : World) (hD : DS B0 w d g) : Calls Try.prog 35 #[ptr d] w fun e w' => ∃ c k p' b, e = .returned (.tuple #[.agg (vtx c k p'), .bool b]) ∧ Fresh w w' p' (nxPs g) := by
  have hn := nx_facts hD.di
  refine (nextV_any d (DgS d g) g w hD.at' hn.1 hn.2.1 hn.2.2).mono ?_
  rintro e w' (⟨h1, rfl, hb⟩ | ⟨v, h1, p', rfl, hf⟩)
  · exact ⟨_, _, _, _, rfl, by unfold nxPs; rw [h1]; exact ⟨ownH_nil _, (fun k hk => by cases hk), hb⟩⟩
  · exact ⟨_, _, p', _, rfl, by unfold nxPs; rw [h1]; exact hf⟩
theorem six {P : Nat → Prop} (h0 : P 0) (h1 : P 1) (h2 : P 2) (h3 : P 3) (h4 : P 4) (h5 : P 5) : ∀ i, i < 6 → P i
  | 0, _ => h0
  | 1, _ => h1
  | 2, _ => h2
  | 3, _ => h3
  | 4, _ => h4
  | 5, _ => h5
  | n + 6, h => absurd h (by omega)
theorem lsAp_of {V : Nat → Value} (lo hi : Nat → Nat) (h : ∀ i, i < 6 → ∀ k, (V i).ownBlock = some k → lo i ≤ k ∧ k < hi i) (hd : ∀ i, i < 6 → ∀ j, j < 6 → i ≠ j → hi i ≤ lo j ∨ hi j ≤ lo i) : LsAp V := fun i j hi' hj hne k h1 h2 => by
  have a := h i hi' k h1
  have b := h j hj k h2
  rcases hd i hi' j hj hne with c | c <;> omega
theorem lists_end {w0 w1 w2 w3 w4 w5 w6 w7 w8 : World} {L : Nat → List Hs} {v0 v1 v2 v3 v4 v5 : Value} (s0 : w0.heap.size ≤ w1.heap.size) (s1 : w1.heap.size ≤ w2.heap.size) (s2 : w2.heap.size ≤ w3.heap.size) (s3 : w3.heap.size ≤ w4.heap.size) (s4 : w4.heap.size ≤ w5.heap.size) (s5 : w5.heap.size ≤ w6.heap.size) (s6 : w6.heap.size ≤ w7.heap.size) (s7 : w7.heap.size ≤ w8.heap.size)
    (o0 : OwnH w8 v0 (L 0)) (o1 : OwnH w8 v1 (L 1)) (o2 : OwnH w8 v2 (L 2)) (o3 : OwnH w8 v3 (L 3)) (o4 : OwnH w8 v4 (L 4)) (o5 : OwnH w8 v5 (L 5))
    (i0 : ∀ k, v0.ownBlock = some k → w4.heap.size ≤ k ∧ k < w5.heap.size) (i1 : ∀ k, v1.ownBlock = some k → w5.heap.size ≤ k ∧ k < w6.heap.size) (i2 : ∀ k, v2.ownBlock = some k → w6.heap.size ≤ k ∧ k < w7.heap.size) (i3 : ∀ k, v3.ownBlock = some k → w7.heap.size ≤ k ∧ k < w8.heap.size) (i4 : ∀ k, v4.ownBlock = some k → w1.heap.size ≤ k ∧ k < w2.heap.size) (i5 : ∀ k, v5.ownBlock = some k → w2.heap.size ≤ k ∧ k < w3.heap.size) :
    LsAt (w8.alloc (.cells #[v0, v1, v2, v3, v4, v5] 37)) w0.heap.size (.slice (some ⟨w8.heap.size, 0, none⟩) 6 6) w8.heap.size (fun i => [v0, v1, v2, v3, v4, v5].getD i undef) L ∧ LsAp (fun i => [v0, v1, v2, v3, v4, v5].getD i undef) := by
  have hb := Blk.new w8 37 #[v0, v1, v2, v3, v4, v5]
  have bn := below_new w8 (.cells #[v0, v1, v2, v3, v4, v5] 37)
  refine ⟨⟨⟨6, rfl⟩, six (hb.c 0 rfl) (hb.c 1 rfl) (hb.c 2 rfl) (hb.c 3 rfl) (hb.c 4 rfl) (hb.c 5 rfl), hb.typ, by omega, six (o0.below bn) (o1.below bn) (o2.below bn) (o3.below bn) (o4.below bn) (o5.below bn), six ?_ ?_ ?_ ?_ ?_ ?_⟩, ?_⟩
  · exact fun k hk => by have := (i0 k hk).1; omega
  · exact fun k hk => by have := (i1 k hk).1; omega
  · exact fun k hk => by have := (i2 k hk).1; omega
  · exact fun k hk => by have := (i3 k hk).1; omega
  · exact fun k hk => by have := (i4 k hk).1; omega
  · exact fun k hk => by have := (i5 k hk).1; omega
  · refine lsAp_of (fun i => [w4.heap.size, w5.heap.size, w6.heap.size, w7.heap.size, w1.heap.size, w2.heap.size].getD i 0) (fun i => [w5.heap.size, w6.heap.size, w7.heap.size, w8.heap.size, w2.heap.size, w3.heap.size].getD i 0) (six i0 i1 i2 i3 i4 i5) ?_
    refine six ?_ ?_ ?_ ?_ ?_ ?_ <;> refine six ?_ ?_ ?_ ?_ ?_ ?_ <;> intro hne <;> first | exact absurd rfl hne | (simp only [List.getD_cons_zero, List.getD_cons_succ]; omega)
set_option maxRecDepth 8000 in
set_option maxHeartbeats 1000000 in
theorem lists_any (B0 d : Nat) (x : Hs) (g : DG) (w : World) (hD : DS B0 w d g) : Calls Try.prog 30 #[ptr d, .agg (bytesA 32 x.f)] w fun e w' => ∃ v gl V, e = .returned v ∧ LsAt w' w.heap.size v gl V (lsL g x) ∧ LsAp V ∧ Below w.heap.size w w' := by
  have HD := Keep.mk hD
  clear hD
  go_enter Try.func30, Try.ntmps30
  refine wp_seq_k fun K1 hK1 => ?_
  refine wp_region_list (WL.out ?_)
  refine WL.box (by kernel_rfl) 36 (.tmp 1) rfl (bytesA 32 x.f) rfl ?_
  obtain ⟨w1, hwn⟩ : ∃ wx, Keep (wx = w.alloc (.cells (bytesA 32 x.f) 36)) := ⟨_, ⟨rfl⟩⟩
  rw [← hwn.out]
  have HX1 : Keep (Blk w1 w.heap.size 36 (bytesA 32 x.f)) := ⟨by rw [hwn.out]; exact Blk.new _ _ _⟩
  have LB1 : Keep (Below w.heap.size w w1) := ⟨by rw [hwn.out]; exact below_new _ _⟩
  clear hwn
  have HD1 := Keep.mk (HD.out.below LB1.out)
  simp only [Act.put, List.setIfInBounds_toArray, List.set_cons_zero, List.set_cons_succ]
  refine WL.val (by kernel_rfl) (.slice none 0 0) (by go_simp) ?_
  simp only [Act.put, List.setIfInBounds_toArray, List.set_cons_zero, List.set_cons_succ]
  refine WL.nil ?_
  refine hK1 _ _ ?_
  refine wp_seq_k fun K2 hK2 => ?_
  refine wp_region_list (WL.out ?_)
  refine WL.val (by kernel_rfl) (.pointer (some ⟨d, 0, none⟩)) (by go_simp) ?_
  simp only [Act.put, List.setIfInBounds_toArray, List.set_cons_zero, List.set_cons_succ]
  refine WL.row (by kernel_rfl) 36 (.tmp 3) rfl w.heap.size rfl 36 (bytesA 32 x.f) _ HX1.out Try.underlying36 rfl (Try.size36B _) ?_
  simp only [Act.put, List.setIfInBounds_toArray, List.set_cons_zero, List.set_cons_succ]
  refine WL.callF (by kernel_rfl) 26 _ _ rfl Try.in26 #[ptr d, .agg (bytesA 32 x.f)] (by simp [Act.eval]) ?_
  refine ((parP_any B0 d x g w1 HD1.out)).mono ?_
  rintro e w2 ⟨v5, er, rfl, hf⟩
  refine ⟨_, rfl, ?_⟩
  have O5 := Keep.mk hf.own
  have N5 := Keep.mk hf.new
  have LB2 := Keep.mk (belowT LB1.out hf.bel)
  have HD2 := Keep.mk (HD1.out.below hf.bel)
  have S12 : Keep (w1.heap.size ≤ w2.heap.size) := ⟨hf.bel.size⟩
  clear hf
  simp only [Act.put, List.setIfInBounds_toArray, List.set_cons_zero, List.set_cons_succ]
  refine WL.val (by kernel_rfl) (.tuple #[v5, .int .i64 er]) (by go_simp) ?_
  simp only [Act.put, List.setIfInBounds_toArray, List.set_cons_zero, List.set_cons_succ]
  refine WL.val (by kernel_rfl) (v5) (by go_simp) ?_
  simp only [Act.put, List.setIfInBounds_toArray, List.set_cons_zero, List.set_cons_succ]
  refine WL.val (by kernel_rfl) (.int .i64 er) (by go_simp) ?_
  simp only [Act.put, List.setIfInBounds_toArray, List.set_cons_zero, List.set_cons_succ]
  refine WL.val (by kernel_rfl) (v5) (by go_simp) ?_
  simp only [Act.put, List.setIfInBounds_toArray, List.set_cons_zero, List.set_cons_succ]
  refine WL.val (by kernel_rfl) (.int .i64 er) (by go_simp) ?_
  simp only [Act.put, List.setIfInBounds_toArray, List.set_cons_zero, List.set_cons_succ]
  refine WL.nil ?_
  refine hK2 _ _ ?_
  refine wp_seq_k fun K3 hK3 => ?_
  refine wp_region_list (WL.out ?_)
  refine WL.val (by kernel_rfl) (.pointer (some ⟨d, 0, none⟩)) (by go_simp) ?_
  simp only [Act.put, List.setIfInBounds_toArray, List.set_cons_zero, List.set_cons_succ]
  refine WL.callF (by kernel_rfl) 35 _ _ rfl Try.in35 #[ptr d] (by simp [Act.eval]) ?_
  refine ((nxP_any B0 d g w2 HD2.out)).mono ?_
  rintro e w3 ⟨cc, kk, p7, bb, rfl, hf⟩
  refine ⟨_, rfl, ?_⟩
  obtain ⟨vq, hvq⟩ : ∃ a : Array Value, Keep (a = vtx cc kk p7) := ⟨_, ⟨rfl⟩⟩
  obtain ⟨vz, hvz⟩ : ∃ a : Array Value, Keep (a = vtx (fun _ => 0) 0 (.slice none 0 0)) := ⟨_, ⟨rfl⟩⟩
  rw [← hvq.out]
  obtain ⟨pa7, pc7, hp7⟩ := hf.own.sl
  have HP7 := Keep.mk hp7
  have O7 := Keep.mk hf.own
  have N7 := Keep.mk hf.new
  have O5b := Keep.mk (O5.out.below hf.bel)
  have LB3 := Keep.mk (belowT LB2.out hf.bel)
  have HD3 := Keep.mk (HD2.out.below hf.bel)
  have S23 : Keep (w2.heap.size ≤ w3.heap.size) := ⟨hf.bel.size⟩
  clear hf hp7
  simp only [Act.put, List.setIfInBounds_toArray, List.set_cons_zero, List.set_cons_succ]
  refine WL.val (by kernel_rfl) (.tuple #[.agg vq, .bool bb]) (by go_simp) ?_
  simp only [Act.put, List.setIfInBounds_toArray, List.set_cons_zero, List.set_cons_succ]
  refine WL.val (by kernel_rfl) (.agg vq) (by go_simp) ?_
  simp only [Act.put, List.setIfInBounds_toArray, List.set_cons_zero, List.set_cons_succ]
  refine WL.val (by kernel_rfl) (.bool bb) (by go_simp) ?_
  simp only [Act.put, List.setIfInBounds_toArray, List.set_cons_zero, List.set_cons_succ]
  refine WL.new (by kernel_rfl) 39 rfl vz (by rw [hvz.out]; exact Try.new39) ?_
  simp only [Act.put, List.setIfInBounds_toArray, List.set_cons_zero, List.set_cons_succ]
  refine WL.storeR (by kernel_rfl) 39 (.tmp 7) (.tmp 18) rfl w3.heap.size vq rfl rfl 39 vz (Blk.new w3 39 _) (by rw [hvq.out]; exact Try.info39s _ _ _) (by simp only [hvq.out, hvz.out, vtx_size]) (by rw [hvq.out, HP7.out]; exact vtx_one _ _ _ (slice_one _ _ _)) ?_
  have HV4 := Keep.mk ((Blk.new w3 39 vz).setRow vq)
  have B4 : Keep (Below w3.heap.size w3 ((w3.alloc (.cells vz 39)).setRow w3.heap.size vq)) := ⟨below_setRow (below_new w3 _) (Nat.le_refl _) _⟩
  generalize (w3.alloc (.cells vz 39)).setRow w3.heap.size vq = w4 at *
  have O5c := Keep.mk (O5b.out.below B4.out)
  have O7b := Keep.mk (O7.out.below B4.out)
  have LB4 := Keep.mk (belowT LB3.out B4.out)
  have HD4 := Keep.mk (HD3.out.below B4.out)
  have S34 : Keep (w3.heap.size ≤ w4.heap.size) := ⟨B4.out.size⟩
  obtain ⟨n7, hn7⟩ : ∃ n, n = w3.heap.size := ⟨_, rfl⟩
  rw [← hn7] at HV4 ⊢
  clear hn7
  simp only [Act.put]
  refine WL.val (by kernel_rfl) (.bool bb) (by go_simp) ?_
  simp only [Act.put, List.setIfInBounds_toArray, List.set_cons_zero, List.set_cons_succ]
  refine WL.nil ?_
  refine hK3 _ _ ?_
  refine wp_seq_k fun K4 hK4 => ?_
  obtain ⟨a5, c5, e5⟩ := O5c.out.sl
  obtain ⟨a7, c7, e7⟩ := O7b.out.sl
  have hSB : Keep (∀ wx, Below w4.heap.size w4 wx → (fun wx => wx.cell? ⟨n7, 33, none⟩ = some p7) wx) := ⟨fun wx hb => (HV4.out.below hb HV4.out.lt).c 33 (by rw [hvq.out]; exact vtx_ps _ _ _)⟩
  have BD : Keep (Below w4.heap.size w4 w4.drew) := ⟨(Below.refl _ _).drew⟩
  have E5 := Keep.mk e5
  have E7 := Keep.mk e7
  clear e5 e7
  refine wp_region_held_drew (S := fun wx => wx.cell? ⟨n7, 33, none⟩ = some p7) (by kernel_rfl) (hSB.out _ BD.out) (fun hHeld => ?_)
  refine wpAnyH_take (i := 0) (oi := ⟨some 20, Op.move (Operand.tmp 0), 27, _, _, none⟩) (v := .pointer (some ⟨d, 0, none⟩)) rfl (by kernel_rfl) (by kernel_rfl) (by kernel_rfl) (fun _ _ _ h => h) (Or.inl ⟨by rfl, fun w hS => by clear hS; go_simp⟩) hHeld ?_
  simp only [Act.put, List.setIfInBounds_toArray, List.set_cons_zero, List.set_cons_succ]
  refine wpAnyH_take (i := 2) (oi := ⟨some 22, Op.move (Operand.tmp 0), 27, _, _, none⟩) (v := .pointer (some ⟨d, 0, none⟩)) rfl (by kernel_rfl) (by kernel_rfl) (by kernel_rfl) (fun _ _ _ h => h) (Or.inl ⟨by rfl, fun w hS => by clear hS; go_simp⟩) hHeld ?_
  simp only [Act.put, List.setIfInBounds_toArray, List.set_cons_zero, List.set_cons_succ]
  refine wpAnyH_take (i := 4) (oi := ⟨some 24, Op.move (Operand.tmp 0), 27, _, _, none⟩) (v := .pointer (some ⟨d, 0, none⟩)) rfl (by kernel_rfl) (by kernel_rfl) (by kernel_rfl) (fun _ _ _ h => h) (Or.inl ⟨by rfl, fun w hS => by clear hS; go_simp⟩) hHeld ?_
  simp only [Act.put, List.setIfInBounds_toArray, List.set_cons_zero, List.set_cons_succ]
  refine wpAnyH_take (i := 6) (oi := ⟨some 26, Op.move (Operand.tmp 0), 27, _, _, none⟩) (v := .pointer (some ⟨d, 0, none⟩)) rfl (by kernel_rfl) (by kernel_rfl) (by kernel_rfl) (fun _ _ _ h => h) (Or.inl ⟨by rfl, fun w hS => by clear hS; go_simp⟩) hHeld ?_
  simp only [Act.put, List.setIfInBounds_toArray, List.set_cons_zero, List.set_cons_succ]
  refine wpAnyH_take (i := 8) (oi := ⟨some 28, Op.move (Operand.tmp 5), 37, _, _, none⟩) (v := v5) rfl (by kernel_rfl) (by kernel_rfl) (by kernel_rfl) (fun _ _ _ h => h) (Or.inl ⟨by rfl, fun w hS => by clear hS; go_simp⟩) hHeld ?_
  simp only [Act.put, List.setIfInBounds_toArray, List.set_cons_zero, List.set_cons_succ]
  refine wpAnyH_take (i := 9) (oi := ⟨some 29, Op.fieldAddr 39 (Operand.tmp 7) 2, 0, _, _, none⟩) (v := .pointer (some ⟨n7, 33, none⟩)) rfl (by kernel_rfl) (by kernel_rfl) (by kernel_rfl) (fun _ _ _ h => h) (Or.inl ⟨by rfl, fun w hS => by clear hS; go_simp⟩) hHeld ?_
  simp only [Act.put, List.setIfInBounds_toArray, List.set_cons_zero, List.set_cons_succ]
  refine wpAnyH_take (i := 10) (oi := ⟨some 30, Op.load 37 (Operand.tmp 29), 37, _, _, none⟩) (v := p7) rfl (by kernel_rfl) (by kernel_rfl) (by kernel_rfl) (fun _ _ _ h => h) (Or.inl ⟨by rfl, fun w hS => by rw [HP7.out] at hS ⊢; go_simp⟩) hHeld ?_
  simp only [Act.put, List.setIfInBounds_toArray, List.set_cons_zero, List.set_cons_succ]
  refine wpAnyH_ready (rs := [1]) (by kernel_rfl) (by simp) ?_
  refine AllReadyH.cons (o := ⟨some 21, Op.call { callee := Callee.value (Operand.func 25), args := #[Operand.tmp 20], argTypes := #[27] }, 37, _, _, none⟩) rfl (fun K hK => ?_) AllReadyH.nil
  rw [if_pos (by rfl)]
  refine wp_callF 25 _ _ rfl Try.in25 #[ptr d] (by simp [Act.eval]) (fun u wx => Fresh w4.drew wx u (lsL g x 0)) ((heads_any d (DgS d g) g w4.drew (HD4.out.below BD.out).at' (by have := HD.out.di.hdl; have := HD.out.di.hl; omega)).mono fun e w' ⟨v', h1, h2⟩ => ⟨_, h1, h2⟩) ?_
  rintro v0 w5 hf
  have B5 := Keep.mk (belowT BD.out hf.bel)
  have X0 := Keep.mk hf.own
  have Y0 := Keep.mk hf.new
  have Z0 := Keep.mk hf.bel
  obtain ⟨a0, c0, e0⟩ := hf.own.sl
  subst e0
  refine hK _ _ (hSB.out _ B5.out) fun hH1 => ?_
  clear hK hf
  simp only [Act.put, List.setIfInBounds_toArray, List.set_cons_zero, List.set_cons_succ]
  refine wpAnyH_ready (rs := [3]) (by kernel_rfl) (by simp) ?_
  refine AllReadyH.cons (o := ⟨some 23, Op.call { callee := Callee.value (Operand.func 50), args := #[Operand.tmp 22], argTypes := #[27] }, 37, _, _, none⟩) rfl (fun K hK => ?_) AllReadyH.nil
  rw [if_pos (by rfl)]
  refine wp_callF 50 _ _ rfl Try.in50 #[ptr d] (by simp [Act.eval]) (fun u wx => Fresh w5 wx u (lsL g x 1)) ((missing_any B0 d g w5 (HD4.out.below B5.out)).mono fun e w' ⟨v', L', h1, h2, h3, h4, h5⟩ => ⟨_, h1, by have h : L' = lsL g x 1 := rising_unique _ _ h3 (srt_pw _) (fun z => by rw [h4]; exact (srt_mem z _).symm); rw [← h]; exact h2⟩) ?_
  rintro v1 w6 hf
  have B6 := Keep.mk (belowT B5.out hf.bel)
  have X1 := Keep.mk hf.own
  have Y1 := Keep.mk hf.new
  have Z1 := Keep.mk hf.bel
  obtain ⟨a1, c1, e1⟩ := hf.own.sl
  subst e1
  refine hK _ _ (hSB.out _ B6.out) fun hH2 => ?_
  clear hK hf
  simp only [Act.put, List.setIfInBounds_toArray, List.set_cons_zero, List.set_cons_succ]
  refine wpAnyH_ready (rs := [5]) (by kernel_rfl) (by simp) ?_
  refine AllReadyH.cons (o := ⟨some 25, Op.call { callee := Callee.value (Operand.func 52), args := #[Operand.tmp 24], argTypes := #[27] }, 37, _, _, none⟩) rfl (fun K hK => ?_) AllReadyH.nil
  rw [if_pos (by rfl)]
  refine wp_callF 52 _ _ rfl Try.in52 #[ptr d] (by simp [Act.eval]) (fun u wx => Fresh w6 wx u (lsL g x 2)) ((waiting_any d (DgS d g) g w6 (HD4.out.below B6.out).at' (by have := HD.out.di.qlen; have := HD.out.di.wl; omega)).mono fun e w' ⟨v', h1, h2⟩ => ⟨_, h1, h2⟩) ?_
  rintro v2 w7 hf
  have B7 := Keep.mk (belowT B6.out hf.bel)
  have X2 := Keep.mk hf.own
  have Y2 := Keep.mk hf.new
  have Z2 := Keep.mk hf.bel
  obtain ⟨a2, c2, e2⟩ := hf.own.sl
  subst e2
  refine hK _ _ (hSB.out _ B7.out) fun hH3 => ?_
  clear hK hf
  simp only [Act.put, List.setIfInBounds_toArray, List.set_cons_zero, List.set_cons_succ]
  refine wpAnyH_ready (rs := [7]) (by kernel_rfl) (by simp) ?_
  refine AllReadyH.cons (o := ⟨some 27, Op.call { callee := Callee.value (Operand.func 21), args := #[Operand.tmp 26], argTypes := #[27] }, 37, _, _, none⟩) rfl (fun K hK => ?_) AllReadyH.nil
  rw [if_pos (by rfl)]
  refine wp_callF 21 _ _ rfl Try.in21 #[ptr d] (by simp [Act.eval]) (fun u wx => Fresh w7 wx u (lsL g x 3)) ((order_any d (DgS d g) g w7 (HD4.out.below B7.out).at' (by have := HD.out.di.ol; have := HD.out.di.hl; omega)).mono fun e w' ⟨v', h1, h2⟩ => ⟨_, h1, h2⟩) ?_
  rintro v3 w8 hf
  have B8 := Keep.mk (belowT B7.out hf.bel)
  have X3 := Keep.mk hf.own
  have Y3 := Keep.mk hf.new
  have Z3 := Keep.mk hf.bel
  obtain ⟨a3, c3, e3⟩ := hf.own.sl
  subst e3
  refine hK _ _ (hSB.out _ B8.out) fun hH4 => ?_
  clear hK hf
  simp only [Act.put, List.setIfInBounds_toArray, List.set_cons_zero, List.set_cons_succ]
  refine wpAnyH_ready (rs := [11]) (by kernel_rfl) (by simp) ?_
  refine AllReadyH.cons (o := ⟨some 31, Op.buildSlice 65 6 #[(0, Operand.tmp 21), (1, Operand.tmp 23), (2, Operand.tmp 25), (3, Operand.tmp 27), (4, Operand.tmp 28), (5, Operand.tmp 30)], 65, _, _, none⟩) rfl (fun K hK => ?_) AllReadyH.nil
  rw [if_pos (by rfl)]
  rw [E5.out, E7.out]
  refine wp_bs 65 6 _ rfl #[(0, .slice a0 (lsL g x 0).length c0), (1, .slice a1 (lsL g x 1).length c1), (2, .slice a2 (lsL g x 2).length c2), (3, .slice a3 (lsL g x 3).length c3), (4, .slice a5 (parH g.held x).length c5), (5, .slice a7 (nxPs g).length c7)] (by simp [Act.eval]) _ _ (bsL (fun i => [a0, a1, a2, a3, a5, a7].getD i none) (fun i => [(lsL g x 0).length, (lsL g x 1).length, (lsL g x 2).length, (lsL g x 3).length, (parH g.held x).length, (nxPs g).length].getD i 0) (fun i => [c0, c1, c2, c3, c5, c7].getD i 0) w8) ?_
  have FIN := Keep.mk (lists_end (L := lsL g x) LB1.out.size S12.out S23.out S34.out Z0.out.size Z1.out.size Z2.out.size Z3.out.size (((X0.out.below Z1.out).below Z2.out).below Z3.out) ((X1.out.below Z2.out).below Z3.out) (X2.out.below Z3.out) X3.out (E5.out ▸ O5c.out.below B8.out) (E7.out ▸ O7b.out.below B8.out) (fun k hk => ⟨Y0.out k hk, X0.out.lt k hk⟩) (fun k hk => ⟨Y1.out k hk, X1.out.lt k hk⟩) (fun k hk => ⟨Y2.out k hk, X2.out.lt k hk⟩) (fun k hk => ⟨Y3.out k hk, X3.out.lt k hk⟩) (fun k hk => ⟨N5.out k (by rw [E5.out]; exact hk), O5.out.lt k (by rw [E5.out]; exact hk)⟩) (fun k hk => ⟨N7.out k (by rw [E7.out]; exact hk), O7.out.lt k (by rw [E7.out]; exact hk)⟩))
  have FB : Keep (Below w.heap.size w (w8.alloc (.cells #[.slice a0 (lsL g x 0).length c0, .slice a1 (lsL g x 1).length c1, .slice a2 (lsL g x 2).length c2, .slice a3 (lsL g x 3).length c3, .slice a5 (parH g.held x).length c5, .slice a7 (nxPs g).length c7] 37))) := ⟨belowT LB4.out (belowT B8.out (below_new w8 _))⟩
  refine hK _ _ (hSB.out _ (belowT B8.out (below_new w8 _))) fun hH5 => ?_
  clear hK
  simp only [Act.put, List.setIfInBounds_toArray, List.set_cons_zero, List.set_cons_succ]
  refine wpAnyH_take (i := 12) (oi := ⟨some 4, Op.assign (Operand.tmp 31), 65, _, _, none⟩) (v := .slice (some ⟨w8.heap.size, 0, none⟩) 6 6) rfl (by kernel_rfl) (by kernel_rfl) (by kernel_rfl) (fun _ _ _ h => h) (Or.inl ⟨by rfl, fun w hS => by clear hS; go_simp⟩) hH5 ?_
  simp only [Act.put, List.setIfInBounds_toArray, List.set_cons_zero, List.set_cons_succ]
  refine wpAnyH_done (by kernel_rfl) ?_ _
  refine hK4 _ _ ?_
  refine wp_ret ?_
  go_ret
  exact ⟨_, _, _, rfl, FIN.out.1, FIN.out.2, FB.out⟩
end Go.Proofs.Ytogmdfhicbmplaa
