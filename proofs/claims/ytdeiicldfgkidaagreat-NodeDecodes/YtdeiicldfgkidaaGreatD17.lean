import Derived.Test.YtdeiicldfgkidaaGreatD16
import Derived.Deep.RegionHeld3
namespace Go.Proofs.YtdeiicldfgkidaaGreat
open Go.RowKit
set_option linter.unusedSimpArgs false
set_option linter.unusedVariables false

theorem bad_of {l : List Int} (h : ¬ (l.length ≤ 1048576 ∧ (decR l).1 = 0)) (h1 : l.length ≤ 1048576) (h2 : (decR l).1 = 0) : False := h ⟨h1, h2⟩
theorem good_of {l : List Int} (h : l.length ≤ 1048576 ∧ (decR l).1 = 0) (h1 : 1048576 < l.length ∨ (¬ 1048576 < l.length ∧ (decR l).1 ≠ 0)) : False := by
 rcases h1 with h1 | ⟨_, h1⟩
 ·have := h.1; omega
 ·exact h1 h.2
theorem node_own {l : List Int} (hB : Byts l) (hg : l.length ≤ 1048576 ∧ (decR l).1 = 0) {N : NodeV} (hN : N = (decR l).2.2) {w : World} {vp vo : Value} (hp : OwnH w vp N.ps) (ho : OwnO w vo N.ops) : NdAt w N vp vo := by
 obtain ⟨h1, h2, h3⟩ := decR_back hB hg.2
 rw [← hN] at h1 h3
 have q := (headE_ok (chkN_ok h1).1)
 have q4 : N.ops.length ≤ 4398046511104 := by have := (chk_ok (chkN_ok h1).2).1; omega
 exact ndAt_own hp ho h3 (by have := q.1; omega) (by have := q.2.1; have := q.2.2.1; omega) (by have := q.2.2.2.2.1; omega) q4
theorem dec_good (v : Value) (l : List Int) (w : World) (hr : RowAt w v l) (hB : Byts l) (hl : l.length ≤ 140737488355328) (hg : l.length ≤ 1048576 ∧ (decR l).1 = 0) (N : NodeV) (hN : N = (decR l).2.2) : Calls Tryz.prog 6 #[v] w fun e w' => ∃ pa pc oa oc, e = .returned (.tuple #[.agg (ndA N.au N.ck (.slice pa N.ps.length pc) (.slice oa N.ops.length oc)), .nilIface]) ∧ OwnH w' (.slice pa N.ps.length pc) N.ps ∧ OwnO w' (.slice oa N.ops.length oc) N.ops ∧ Below w.heap.size w w' := by
 refine (decode_any v l w hr hB).mono ?_
 rintro e w' (⟨h1, h2, vp, vo, rfl, h3, h4, _, _, _, _, hb⟩ | ⟨h1, q, _, rfl, hbad, hb⟩)
 ·rw [← hN] at h3 h4 ⊢
  obtain ⟨pa, pc, rfl⟩ := h3.sl
  obtain ⟨oa, oc, rfl⟩ := h4.sl
  exact ⟨pa, pc, oa, oc, rfl, h3, h4, hb⟩
 ·exact (good_of hg h1).elim
theorem dec_bad (v : Value) (l : List Int) (w : World) (hr : RowAt w v l) (hB : Byts l) (hl : l.length ≤ 140737488355328) (hg : ¬ (l.length ≤ 1048576 ∧ (decR l).1 = 0)) : Calls Tryz.prog 6 #[v] w fun e w' => ∃ q, e = .returned (.tuple #[.agg (ndA 0 0 noS noS), err q]) ∧ BadAt w' q (badR l).1 (badR l).2 ∧ Below w.heap.size w w' := by
 refine (decode_any v l w hr hB).mono ?_
 rintro e w' (⟨h1, h2, vp, vo, rfl, h3, h4, _, _, _, _, hb⟩ | ⟨h1, q, _, rfl, hbad, hb⟩)
 ·exact (bad_of hg h1 h2).elim
 ·exact ⟨q, rfl, hbad, hb⟩
theorem rdec_good (v : Value) (l : List Int) (w : World) (hr : RowAt w v l) (hB : Byts l) (hl : l.length ≤ 140737488355328) (hg : l.length ≤ 1048576 ∧ (decR l).1 = 0) (N : NodeV) (hN : N = (decR l).2.2) : Calls Tryz.prog 7 #[v] w fun e w' => ∃ pa pc oa oc, e = .returned (.tuple #[.agg (ndA N.au N.ck (.slice pa N.ps.length pc) (.slice oa N.ops.length oc)), .agg (erA 0 0)]) ∧ OwnH w' (.slice pa N.ps.length pc) N.ps ∧ OwnO w' (.slice oa N.ops.length oc) N.ops ∧ Below w.heap.size w w' := by
 refine (rdecode_any v l w hr hB hl).mono ?_
 rintro e w' (⟨h1, h2, vp, vo, rfl, h3, h4, hb⟩ | ⟨h1, rfl, hb⟩)
 ·rw [← hN] at h3 h4 ⊢
  obtain ⟨pa, pc, rfl⟩ := h3.sl
  obtain ⟨oa, oc, rfl⟩ := h4.sl
  exact ⟨pa, pc, oa, oc, rfl, h3, h4, hb⟩
 ·exact (good_of hg h1).elim
theorem rdec_bad (v : Value) (l : List Int) (w : World) (hr : RowAt w v l) (hB : Byts l) (hl : l.length ≤ 140737488355328) (hg : ¬ (l.length ≤ 1048576 ∧ (decR l).1 = 0)) : Calls Tryz.prog 7 #[v] w fun e w' => e = .returned (.tuple #[.agg (ndA 0 0 noS noS), .agg (erA (badR l).1 ((badR l).2 : Int))]) ∧ Below w.heap.size w w' := by
 refine (rdecode_any v l w hr hB hl).mono ?_
 rintro e w' (⟨h1, h2, vp, vo, rfl, h3, h4, hb⟩ | ⟨h1, rfl, hb⟩)
 ·exact (bad_of hg h1 h2).elim
 ·exact ⟨rfl, hb⟩
theorem ent_good (v : Value) (l : List Int) (w : World) (hr : RowAt w v l) (hB : Byts l) (hl : l.length ≤ 140737488355328) (hg : l.length ≤ 1048576 ∧ (decR l).1 = 0) (N : NodeV) (hN : N = (decR l).2.2) : Calls Tryz.prog 10 #[v] w fun e w' => ∃ pa pc oa oc, e = .returned (.tuple #[.agg (enA (Sh.shaP l) (ndA N.au N.ck (.slice pa N.ps.length pc) (.slice oa N.ops.length oc))), .nilIface]) ∧ OwnH w' (.slice pa N.ps.length pc) N.ps ∧ OwnO w' (.slice oa N.ops.length oc) N.ops ∧ Below w.heap.size w w' := by
 refine (entry_any v l w hr hB).mono ?_
 rintro e w' (⟨h1, h2, vp, vo, rfl, h3, h4, _, _, hb⟩ | ⟨h1, q, _, rfl, hbad, hb⟩)
 ·rw [← hN] at h3 h4 ⊢
  obtain ⟨pa, pc, rfl⟩ := h3.sl
  obtain ⟨oa, oc, rfl⟩ := h4.sl
  exact ⟨pa, pc, oa, oc, rfl, h3, h4, hb⟩
 ·exact (good_of hg h1).elim
theorem ent_bad (v : Value) (l : List Int) (w : World) (hr : RowAt w v l) (hB : Byts l) (hl : l.length ≤ 140737488355328) (hg : ¬ (l.length ≤ 1048576 ∧ (decR l).1 = 0)) : Calls Tryz.prog 10 #[v] w fun e w' => ∃ q, e = .returned (.tuple #[.agg zEn, err q]) ∧ BadAt w' q (badR l).1 (badR l).2 ∧ Below w.heap.size w w' := by
 refine (entry_any v l w hr hB).mono ?_
 rintro e w' (⟨h1, h2, vp, vo, rfl, h3, h4, _, _, hb⟩ | ⟨h1, q, _, rfl, hbad, hb⟩)
 ·exact (bad_of hg h1 h2).elim
 ·exact ⟨q, rfl, hbad, hb⟩
theorem rent_good (v : Value) (l : List Int) (w : World) (hr : RowAt w v l) (hB : Byts l) (hl : l.length ≤ 140737488355328) (hg : l.length ≤ 1048576 ∧ (decR l).1 = 0) (N : NodeV) (hN : N = (decR l).2.2) : Calls Tryz.prog 11 #[v] w fun e w' => ∃ pa pc oa oc, e = .returned (.tuple #[.agg (enA (Sh.shaP l) (ndA N.au N.ck (.slice pa N.ps.length pc) (.slice oa N.ops.length oc))), .agg (erA 0 0)]) ∧ OwnH w' (.slice pa N.ps.length pc) N.ps ∧ OwnO w' (.slice oa N.ops.length oc) N.ops ∧ Below w.heap.size w w' := by
 refine (rentry_any v l w hr hB hl).mono ?_
 rintro e w' (⟨h1, h2, vp, vo, rfl, h3, h4, hb⟩ | ⟨h1, rfl, hb⟩)
 ·rw [← hN] at h3 h4 ⊢
  obtain ⟨pa, pc, rfl⟩ := h3.sl
  obtain ⟨oa, oc, rfl⟩ := h4.sl
  exact ⟨pa, pc, oa, oc, rfl, h3, h4, hb⟩
 ·exact (good_of hg h1).elim
theorem rent_bad (v : Value) (l : List Int) (w : World) (hr : RowAt w v l) (hB : Byts l) (hl : l.length ≤ 140737488355328) (hg : ¬ (l.length ≤ 1048576 ∧ (decR l).1 = 0)) : Calls Tryz.prog 11 #[v] w fun e w' => e = .returned (.tuple #[.agg zEn, .agg (erA (badR l).1 ((badR l).2 : Int))]) ∧ Below w.heap.size w w' := by
 refine (rentry_any v l w hr hB hl).mono ?_
 rintro e w' (⟨h1, h2, vp, vo, rfl, h3, h4, hb⟩ | ⟨h1, rfl, hb⟩)
 ·exact (bad_of hg h1 h2).elim
 ·exact ⟨rfl, hb⟩
theorem bad_why {l : List Int} (hg : ¬ (l.length ≤ 1048576 ∧ (decR l).1 = 0)) : (badR l).1 ≠ 0 := by
 refine badR_ne ?_
 by_cases h : 1048576 < l.length
 ·exact .inl h
 ·exact .inr ⟨h, fun h2 => hg ⟨by omega, h2⟩⟩
theorem neqE (a b : Int) (w : World) : (binOp .neq 34 (.agg (erA a b)) (.agg (erA a b))).run Tryz.prog w = .ok (.bool false) w := by
 unfold erA
 go_simp
set_option maxRecDepth 8000 in
set_option maxHeartbeats 8000000 in
theorem decodes_any (v : Value) (ls : List (List Int)) (w : World) (hr : RwsAt w v ls) (hm : ls.length ≤ 140737488355328) (hls : ∀ i, i < ls.length → (ls.getD i []).length ≤ 140737488355328) (hby : ∀ r ∈ ls, Byts r) : Calls Tryz.prog 3 #[v] w fun e w' => e = .returned (.bool true) ∧ Below w.heap.size w w' := by
 obtain ⟨va, vc, rfl⟩ := hr.form
 have HR := Keep.mk hr
 have Hm := Keep.mk hm
 have Hls := Keep.mk hls
 have Hby := Keep.mk hby
 clear hr hm hls hby
 go_enter Tryz.func3, Tryz.ntmps3
 refine wp_seq_k fun K1 hK1 => rgn ?_
 refine VlS (.bool false) ?_
 refine WL.nil (hK1 _ _ ?_)
 refine wp_seq_k fun K2 hK2 => ?_
 refine wp_seq_k fun K3 hK3 => rgn ?_
 refine WL.callF (by kernel_rfl) 5 _ _ rfl Tryz.in5 #[] (by simp) ?_
 refine (awake_any w).mono ?_
 rintro e w1 ⟨rfl, hb1⟩
 refine ⟨_, rfl, ?_⟩
 have HR1 := Keep.mk (HR.out.below hb1)
 have HB1 := Keep.mk hb1
 clear hb1
 simp only [Act.put, pqA, pqB, pqC]
 refine VlS (.bool false) ?_
 refine WL.nil (hK3 _ _ ?_)
 refine wp_cond_false rfl ?_
 refine wp_skip ?_
 refine hK2 _ _ ?_
 refine wp_seq_k fun K4 hK4 => ?_
 refine wp_seq_k fun K5 hK5 => rgn ?_
 refine VlS (.slice va ls.length vc) ?_
 refine VlS (.int .i64 (ls.length : Int)) ?_
 refine VlS (.int .i64 0) ?_
 refine WL.nil (hK5 _ _ ?_)
 refine wp_block ?_
 refine wp_loop (fun ac wr => ∃ (t : Nat) (f : Nat → Value), ac = { tmps := #[.slice va ls.length vc, undef, f 2, undef, f 4, f 5, f 6, f 7, f 8, f 9, f 10, f 11, f 12, .bool true, .bool false, .slice va ls.length vc, .int .i64 (ls.length : Int), .int .i64 (t : Int), f 18, f 19, f 20, f 21, f 22, f 23, f 24, f 25, f 26, f 27, f 28, f 29, f 30, f 31, f 32, f 33, f 34, f 35, f 36, f 37, f 38, f 39, f 40, f 41, f 42, f 43, f 44, f 45, f 46, f 47, f 48, f 49, f 50, f 51, f 52, f 53, f 54, f 55, f 56, f 57, f 58, f 59, f 60, f 61, f 62, f 63, f 64, f 65, f 66, f 67, f 68, f 69, f 70, f 71, f 72, f 73, f 74, f 75, f 76, f 77], defers := [] } ∧ t ≤ ls.length ∧ RwsAt wr (.slice va ls.length vc) ls ∧ Below w.heap.size w wr) (fun a _ => ls.length - (intOf (a.tmps.getD 17 undef)).toNat) ⟨0, fun i => [.slice va ls.length vc, undef, .bool false, undef, undef, undef, undef, undef, undef, undef, undef, undef, undef, .bool true, .bool false, .slice va ls.length vc, .int .i64 (ls.length : Int), .int .i64 0, undef, undef, undef, undef, undef, undef, undef, undef, undef, undef, undef, undef, undef, undef, undef, undef, undef, undef, undef, undef, undef, undef, undef, undef, undef, undef, undef, undef, undef, undef, undef, undef, undef, undef, undef, undef, undef, undef, undef, undef, undef, undef, undef, undef, undef, undef, undef, undef, undef, undef, undef, undef, undef, undef, undef, undef, undef, undef, undef, undef].getD i undef, rfl, by omega, HR1.out, HB1.out⟩ ?_
 rintro ac wr ⟨t, f, rfl, ht, hR, hT⟩
 have JR := Keep.mk hR
 have JT := Keep.mk hT
 clear hR hT
 by_cases hlt : t < ls.length
 ·have hlt' : (t : Int) < (ls.length : Int) := by omega
  have hwt : IntKind.i64.wrap ((t : Int) + 1) = (t : Int) + 1 := by rw [IntKind.wrap_i64]; have := Hm.out; omega
  obtain ⟨q0, o0, ra, rc, ha0, -, hcell, hrow⟩ := JR.out.at t hlt
  subst ha0
  have Hrl : Keep ((ls.getD t []).length ≤ 140737488355328) := ⟨Hls.out t hlt⟩
  have HBr : Keep (Byts (ls.getD t [])) := ⟨Hby.out _ (by rw [List.getD_eq_getElem?_getD, List.getElem?_eq_getElem hlt]; exact List.getElem_mem hlt)⟩
  generalize ls.getD t [] = r at *
  have JW := Keep.mk hrow
  have JWb := Keep.mk hrow
  have JR2 := Keep.mk JR.out
  have JTr := Keep.mk (Below.refl wr.heap.size wr)
  clear hrow
  obtain ⟨ZE, hZE⟩ : ∃ ZE, Keep (ZE = zEn) := ⟨_, ⟨rfl⟩⟩
  by_cases hg : r.length ≤ 1048576 ∧ (decR r).1 = 0
  ·obtain ⟨N, hN⟩ : ∃ N, Keep (N = (decR r).2.2) := ⟨_, ⟨rfl⟩⟩
   obtain ⟨hc, hhc⟩ : ∃ hc, Keep (Sh.shaP r = hc) := ⟨_, ⟨rfl⟩⟩
   refine wp_seq_k fun K6 hK6 => rgn ?_
   refine VlS (.bool true) ?_
   refine WL.nil (hK6 _ _ ?_)
   refine wp_seq_k fun K7 hK7 => ?_
   refine wp_cond_true rfl ?_
   refine wp_skip ?_
   refine hK7 _ _ ?_
   refine wp_seq_k fun K8 hK8 => ?_
   refine wp_block ?_
   refine wp_seq_k fun K9 hK9 => rgn ?_
   refine VlS (.pointer (some ⟨q0, o0 + t, none⟩)) ?_
   refine VlS (.slice ra r.length rc) ?_
   refine VlS (.slice ra r.length rc) ?_
   refine WL.nil (hK9 _ _ ?_)
   refine wp_seq_k fun K10 hK10 => rgn ?_
   refine VlS (.slice ra r.length rc) ?_
   refine WL.callF (by kernel_rfl) 6 _ _ rfl Tryz.in6 #[.slice ra r.length rc] (by simp [Act.eval]) ?_
   refine (dec_good _ r wr JW.out HBr.out Hrl.out hg N hN.out).mono ?_
   rintro e wA ⟨pa1, pc1, oa1, oc1, rfl, h1, h2, hb⟩
   refine ⟨_, rfl, ?_⟩
   have BC_ := Keep.mk hb
   clear hb
   have F1 := Keep.mk (JTr.out.trans ((BC_.out).mono JTr.out.size))
   have F2 := Keep.mk (JW.out.below BC_.out)
   have F3 := Keep.mk (JR2.out.below BC_.out)
   clear JTr JW JR2
   have O1 := Keep.mk h1
   have Q1 := Keep.mk h2
   clear h1 h2
   clear BC_
   simp only [Act.put, pqA, pqB, pqC]
   refine VlS (.tuple #[.agg (ndA N.au N.ck (.slice pa1 N.ps.length pc1) (.slice oa1 N.ops.length oc1)), .nilIface]) ?_
   refine VlS (.agg (ndA N.au N.ck (.slice pa1 N.ps.length pc1) (.slice oa1 N.ops.length oc1))) ?_
   refine VlS (.nilIface) ?_
   refine WL.new (by kernel_rfl) 28 rfl _ Tryz.new28N ?_
   have HN_ := Keep.mk (Blk.new wA 28 (ndA 0 0 noS noS))
   have BN_ := Keep.mk (below_new wA (.cells (ndA 0 0 noS noS) 28))
   generalize wA.alloc (.cells (ndA 0 0 noS noS) 28) = wB at *
   obtain ⟨g5, hg5⟩ : ∃ g, Keep (g = wA.heap.size) := ⟨_, ⟨rfl⟩⟩
   rw [← hg5.out] at HN_ ⊢
   have l_g5 : Keep (wr.heap.size ≤ g5) := ⟨by rw [hg5.out]; exact F1.out.size⟩
   clear hg5
   have F4 := Keep.mk (F1.out.trans ((BN_.out).mono F1.out.size))
   have F5 := Keep.mk (F2.out.below BN_.out)
   have F6 := Keep.mk (F3.out.below BN_.out)
   have F7 := Keep.mk (O1.out.below BN_.out)
   have F8 := Keep.mk (Q1.out.below BN_.out)
   clear F1 F2 F3 O1 Q1
   clear BN_
   have F9 := Keep.mk HN_.out
   clear HN_
   simp only [Act.put, pqA, pqB, pqC]
   refine WL.storeR (by kernel_rfl) 28 (.tmp 5) (.tmp 24) rfl g5 (ndA N.au N.ck (.slice pa1 N.ps.length pc1) (.slice oa1 N.ops.length oc1)) rfl rfl 28 (ndA 0 0 noS noS) F9.out (Tryz.size28B _ _ _ _) (rfl) (nd_one _ _ _ _ _ _ _ _) ?_
   have F10 := Keep.mk (below_setRow F4.out (b := g5) (l_g5.out) (ndA N.au N.ck (.slice pa1 N.ps.length pc1) (.slice oa1 N.ops.length oc1)))
   have F11 : Keep (RowAt (wB.setRow g5 (ndA N.au N.ck (.slice pa1 N.ps.length pc1) (.slice oa1 N.ops.length oc1))) (.slice ra r.length rc) r) := ⟨JWb.out.below (F10.out)⟩
   have F12 : Keep (RwsAt (wB.setRow g5 (ndA N.au N.ck (.slice pa1 N.ps.length pc1) (.slice oa1 N.ops.length oc1))) (.slice (some ⟨q0, o0, none⟩) ls.length vc) ls) := ⟨JR.out.below (F10.out)⟩
   have F13 := Keep.mk (F7.out.grown (Grown.setRow wB g5 (ndA N.au N.ck (.slice pa1 N.ps.length pc1) (.slice oa1 N.ops.length oc1)) (S := fun k => k = g5) fun _ => rfl) (fun k hk e => F7.out.ne F9.out (by decide) (e ▸ hk)))
   have F14 := Keep.mk (F8.out.grown (Grown.setRow wB g5 (ndA N.au N.ck (.slice pa1 N.ps.length pc1) (.slice oa1 N.ops.length oc1)) (S := fun k => k = g5) fun _ => rfl) (fun k hk e => F8.out.ne F9.out (by decide) (e ▸ hk)))
   have F15 := Keep.mk (F9.out.setRow (ndA N.au N.ck (.slice pa1 N.ps.length pc1) (.slice oa1 N.ops.length oc1)))
   clear F4 F5 F6 F7 F8 F9
   generalize wB.setRow g5 (ndA N.au N.ck (.slice pa1 N.ps.length pc1) (.slice oa1 N.ops.length oc1)) = wC at *
   simp only [Act.put]
   refine VlS (.nilIface) ?_
   refine WL.nil (hK10 _ _ ?_)
   refine wp_seq_k fun K11 hK11 => rgn ?_
   refine VlS (.slice ra r.length rc) ?_
   refine WL.callF (by kernel_rfl) 7 _ _ rfl Tryz.in7 #[.slice ra r.length rc] (by simp [Act.eval]) ?_
   refine (rdec_good _ r wC F11.out HBr.out Hrl.out hg N hN.out).mono ?_
   rintro e wD ⟨pa2, pc2, oa2, oc2, rfl, h1, h2, hb⟩
   refine ⟨_, rfl, ?_⟩
   have BC_ := Keep.mk hb
   clear hb
   have F16 := Keep.mk (F10.out.trans ((BC_.out).mono F10.out.size))
   have F17 := Keep.mk (F11.out.below BC_.out)
   have F18 := Keep.mk (F12.out.below BC_.out)
   have F19 := Keep.mk (F13.out.below BC_.out)
   have F20 := Keep.mk (F14.out.below BC_.out)
   have F21 := Keep.mk (F15.out.below BC_.out F15.out.lt)
   clear F10 F11 F12 F13 F14 F15
   have O2 := Keep.mk h1
   have Q2 := Keep.mk h2
   clear h1 h2
   clear BC_
   simp only [Act.put, pqA, pqB, pqC]
   refine VlS (.tuple #[.agg (ndA N.au N.ck (.slice pa2 N.ps.length pc2) (.slice oa2 N.ops.length oc2)), .agg (erA 0 0)]) ?_
   refine VlS (.agg (ndA N.au N.ck (.slice pa2 N.ps.length pc2) (.slice oa2 N.ops.length oc2))) ?_
   refine VlS (.agg (erA 0 0)) ?_
   refine WL.new (by kernel_rfl) 28 rfl _ Tryz.new28N ?_
   have HN_ := Keep.mk (Blk.new wD 28 (ndA 0 0 noS noS))
   have BN_ := Keep.mk (below_new wD (.cells (ndA 0 0 noS noS) 28))
   generalize wD.alloc (.cells (ndA 0 0 noS noS) 28) = wE at *
   obtain ⟨g7, hg7⟩ : ∃ g, Keep (g = wD.heap.size) := ⟨_, ⟨rfl⟩⟩
   rw [← hg7.out] at HN_ ⊢
   have n_g7_g5 : Keep (g7 ≠ g5) := ⟨fun e => by have h1 := F21.out.lt; have h2 := hg7.out; omega⟩
   have l_g7 : Keep (wr.heap.size ≤ g7) := ⟨by rw [hg7.out]; exact F16.out.size⟩
   clear hg7
   have F22 := Keep.mk (F16.out.trans ((BN_.out).mono F16.out.size))
   have F23 := Keep.mk (F17.out.below BN_.out)
   have F24 := Keep.mk (F18.out.below BN_.out)
   have F25 := Keep.mk (F19.out.below BN_.out)
   have F26 := Keep.mk (F20.out.below BN_.out)
   have F27 := Keep.mk (F21.out.below BN_.out F21.out.lt)
   have F28 := Keep.mk (O2.out.below BN_.out)
   have F29 := Keep.mk (Q2.out.below BN_.out)
   clear F16 F17 F18 F19 F20 F21 O2 Q2
   clear BN_
   have F30 := Keep.mk HN_.out
   clear HN_
   simp only [Act.put, pqA, pqB, pqC]
   refine WL.new (by kernel_rfl) 34 rfl _ Tryz.new34E ?_
   have HN_ := Keep.mk (Blk.new wE 34 (erA 0 0))
   have BN_ := Keep.mk (below_new wE (.cells (erA 0 0) 34))
   generalize wE.alloc (.cells (erA 0 0) 34) = wF at *
   obtain ⟨g8, hg8⟩ : ∃ g, Keep (g = wE.heap.size) := ⟨_, ⟨rfl⟩⟩
   rw [← hg8.out] at HN_ ⊢
   have n_g8_g5 : Keep (g8 ≠ g5) := ⟨fun e => by have h1 := F27.out.lt; have h2 := hg8.out; omega⟩
   have n_g8_g7 : Keep (g8 ≠ g7) := ⟨fun e => by have h1 := F30.out.lt; have h2 := hg8.out; omega⟩
   have l_g8 : Keep (wr.heap.size ≤ g8) := ⟨by rw [hg8.out]; exact F22.out.size⟩
   clear hg8
   have F31 := Keep.mk (F22.out.trans ((BN_.out).mono F22.out.size))
   have F32 := Keep.mk (F23.out.below BN_.out)
   have F33 := Keep.mk (F24.out.below BN_.out)
   have F34 := Keep.mk (F25.out.below BN_.out)
   have F35 := Keep.mk (F26.out.below BN_.out)
   have F36 := Keep.mk (F27.out.below BN_.out F27.out.lt)
   have F37 := Keep.mk (F28.out.below BN_.out)
   have F38 := Keep.mk (F29.out.below BN_.out)
   have F39 := Keep.mk (F30.out.below BN_.out F30.out.lt)
   clear F22 F23 F24 F25 F26 F27 F28 F29 F30
   clear BN_
   have F40 := Keep.mk HN_.out
   clear HN_
   simp only [Act.put, pqA, pqB, pqC]
   refine WL.storeR (by kernel_rfl) 28 (.tmp 7) (.tmp 29) rfl g7 (ndA N.au N.ck (.slice pa2 N.ps.length pc2) (.slice oa2 N.ops.length oc2)) rfl rfl 28 (ndA 0 0 noS noS) F39.out (Tryz.size28B _ _ _ _) (rfl) (nd_one _ _ _ _ _ _ _ _) ?_
   have F41 := Keep.mk (below_setRow F31.out (b := g7) (l_g7.out) (ndA N.au N.ck (.slice pa2 N.ps.length pc2) (.slice oa2 N.ops.length oc2)))
   have F42 : Keep (RowAt (wF.setRow g7 (ndA N.au N.ck (.slice pa2 N.ps.length pc2) (.slice oa2 N.ops.length oc2))) (.slice ra r.length rc) r) := ⟨JWb.out.below (F41.out)⟩
   have F43 : Keep (RwsAt (wF.setRow g7 (ndA N.au N.ck (.slice pa2 N.ps.length pc2) (.slice oa2 N.ops.length oc2))) (.slice (some ⟨q0, o0, none⟩) ls.length vc) ls) := ⟨JR.out.below (F41.out)⟩
   have F44 := Keep.mk (F34.out.grown (Grown.setRow wF g7 (ndA N.au N.ck (.slice pa2 N.ps.length pc2) (.slice oa2 N.ops.length oc2)) (S := fun k => k = g7) fun _ => rfl) (fun k hk e => F34.out.ne F39.out (by decide) (e ▸ hk)))
   have F45 := Keep.mk (F35.out.grown (Grown.setRow wF g7 (ndA N.au N.ck (.slice pa2 N.ps.length pc2) (.slice oa2 N.ops.length oc2)) (S := fun k => k = g7) fun _ => rfl) (fun k hk e => F35.out.ne F39.out (by decide) (e ▸ hk)))
   have F46 := Keep.mk (F36.out.setRow_ne (b' := g7) (fun e => n_g7_g5.out e.symm) (ndA N.au N.ck (.slice pa2 N.ps.length pc2) (.slice oa2 N.ops.length oc2)))
   have F47 := Keep.mk (F37.out.grown (Grown.setRow wF g7 (ndA N.au N.ck (.slice pa2 N.ps.length pc2) (.slice oa2 N.ops.length oc2)) (S := fun k => k = g7) fun _ => rfl) (fun k hk e => F37.out.ne F39.out (by decide) (e ▸ hk)))
   have F48 := Keep.mk (F38.out.grown (Grown.setRow wF g7 (ndA N.au N.ck (.slice pa2 N.ps.length pc2) (.slice oa2 N.ops.length oc2)) (S := fun k => k = g7) fun _ => rfl) (fun k hk e => F38.out.ne F39.out (by decide) (e ▸ hk)))
   have F49 := Keep.mk (F39.out.setRow (ndA N.au N.ck (.slice pa2 N.ps.length pc2) (.slice oa2 N.ops.length oc2)))
   have F50 := Keep.mk (F40.out.setRow_ne (b' := g7) n_g8_g7.out (ndA N.au N.ck (.slice pa2 N.ps.length pc2) (.slice oa2 N.ops.length oc2)))
   clear F31 F32 F33 F34 F35 F36 F37 F38 F39 F40
   generalize wF.setRow g7 (ndA N.au N.ck (.slice pa2 N.ps.length pc2) (.slice oa2 N.ops.length oc2)) = wG at *
   simp only [Act.put]
   refine WL.storeR (by kernel_rfl) 34 (.tmp 8) (.tmp 30) rfl g8 (erA 0 0) rfl rfl 34 (erA 0 0) F50.out (Tryz.size34B _ _) (erA_sizes _ _ _ _) (erA_one _ _) ?_
   have F51 := Keep.mk (below_setRow F41.out (b := g8) (l_g8.out) (erA 0 0))
   have F52 : Keep (RowAt (wG.setRow g8 (erA 0 0)) (.slice ra r.length rc) r) := ⟨JWb.out.below (F51.out)⟩
   have F53 : Keep (RwsAt (wG.setRow g8 (erA 0 0)) (.slice (some ⟨q0, o0, none⟩) ls.length vc) ls) := ⟨JR.out.below (F51.out)⟩
   have F54 := Keep.mk (F44.out.grown (Grown.setRow wG g8 (erA 0 0) (S := fun k => k = g8) fun _ => rfl) (fun k hk e => F44.out.ne F50.out (by decide) (e ▸ hk)))
   have F55 := Keep.mk (F45.out.grown (Grown.setRow wG g8 (erA 0 0) (S := fun k => k = g8) fun _ => rfl) (fun k hk e => F45.out.ne F50.out (by decide) (e ▸ hk)))
   have F56 := Keep.mk (F46.out.setRow_ne (b' := g8) (fun e => n_g8_g5.out e.symm) (erA 0 0))
   have F57 := Keep.mk (F47.out.grown (Grown.setRow wG g8 (erA 0 0) (S := fun k => k = g8) fun _ => rfl) (fun k hk e => F47.out.ne F50.out (by decide) (e ▸ hk)))
   have F58 := Keep.mk (F48.out.grown (Grown.setRow wG g8 (erA 0 0) (S := fun k => k = g8) fun _ => rfl) (fun k hk e => F48.out.ne F50.out (by decide) (e ▸ hk)))
   have F59 := Keep.mk (F49.out.setRow_ne (b' := g8) (fun e => n_g8_g7.out e.symm) (erA 0 0))
   have F60 := Keep.mk (F50.out.setRow (erA 0 0))
   clear F41 F42 F43 F44 F45 F46 F47 F48 F49 F50
   generalize wG.setRow g8 (erA 0 0) = wH at *
   simp only [Act.put]
   refine WL.nil (hK11 _ _ ?_)
   refine wp_seq_k fun K12 hK12 => rgn ?_
   refine VlS (.nilIface) ?_
   refine WL.callF (by kernel_rfl) 8 _ _ rfl Tryz.in8 #[.nilIface] (by simp [Act.eval]) ?_
   refine (told_nil wH).mono ?_
   rintro e wI ⟨rfl, hb⟩
   refine ⟨_, rfl, ?_⟩
   have BC_ := Keep.mk hb
   clear hb
   have F61 := Keep.mk (F51.out.trans ((BC_.out).mono F51.out.size))
   have F62 := Keep.mk (F52.out.below BC_.out)
   have F63 := Keep.mk (F53.out.below BC_.out)
   have F64 := Keep.mk (F54.out.below BC_.out)
   have F65 := Keep.mk (F55.out.below BC_.out)
   have F66 := Keep.mk (F56.out.below BC_.out F56.out.lt)
   have F67 := Keep.mk (F57.out.below BC_.out)
   have F68 := Keep.mk (F58.out.below BC_.out)
   have F69 := Keep.mk (F59.out.below BC_.out F59.out.lt)
   have F70 := Keep.mk (F60.out.below BC_.out F60.out.lt)
   clear F51 F52 F53 F54 F55 F56 F57 F58 F59 F60
   clear BC_
   simp only [Act.put, pqA, pqB, pqC]
   refine VlS (.tuple #[.agg (erA 0 0), .bool true]) ?_
   refine VlS (.agg (erA 0 0)) ?_
   refine VlS (.bool true) ?_
   refine WL.new (by kernel_rfl) 34 rfl _ Tryz.new34E ?_
   have HN_ := Keep.mk (Blk.new wI 34 (erA 0 0))
   have BN_ := Keep.mk (below_new wI (.cells (erA 0 0) 34))
   generalize wI.alloc (.cells (erA 0 0) 34) = wJ at *
   obtain ⟨g9, hg9⟩ : ∃ g, Keep (g = wI.heap.size) := ⟨_, ⟨rfl⟩⟩
   rw [← hg9.out] at HN_ ⊢
   have n_g9_g5 : Keep (g9 ≠ g5) := ⟨fun e => by have h1 := F66.out.lt; have h2 := hg9.out; omega⟩
   have n_g9_g7 : Keep (g9 ≠ g7) := ⟨fun e => by have h1 := F69.out.lt; have h2 := hg9.out; omega⟩
   have n_g9_g8 : Keep (g9 ≠ g8) := ⟨fun e => by have h1 := F70.out.lt; have h2 := hg9.out; omega⟩
   have l_g9 : Keep (wr.heap.size ≤ g9) := ⟨by rw [hg9.out]; exact F61.out.size⟩
   clear hg9
   have F71 := Keep.mk (F61.out.trans ((BN_.out).mono F61.out.size))
   have F72 := Keep.mk (F62.out.below BN_.out)
   have F73 := Keep.mk (F63.out.below BN_.out)
   have F74 := Keep.mk (F64.out.below BN_.out)
   have F75 := Keep.mk (F65.out.below BN_.out)
   have F76 := Keep.mk (F66.out.below BN_.out F66.out.lt)
   have F77 := Keep.mk (F67.out.below BN_.out)
   have F78 := Keep.mk (F68.out.below BN_.out)
   have F79 := Keep.mk (F69.out.below BN_.out F69.out.lt)
   have F80 := Keep.mk (F70.out.below BN_.out F70.out.lt)
   clear F61 F62 F63 F64 F65 F66 F67 F68 F69 F70
   clear BN_
   have F81 := Keep.mk HN_.out
   clear HN_
   simp only [Act.put, pqA, pqB, pqC]
   refine WL.storeR (by kernel_rfl) 34 (.tmp 9) (.tmp 34) rfl g9 (erA 0 0) rfl rfl 34 (erA 0 0) F81.out (Tryz.size34B _ _) (erA_sizes _ _ _ _) (erA_one _ _) ?_
   have F82 := Keep.mk (below_setRow F71.out (b := g9) (l_g9.out) (erA 0 0))
   have F83 : Keep (RowAt (wJ.setRow g9 (erA 0 0)) (.slice ra r.length rc) r) := ⟨JWb.out.below (F82.out)⟩
   have F84 : Keep (RwsAt (wJ.setRow g9 (erA 0 0)) (.slice (some ⟨q0, o0, none⟩) ls.length vc) ls) := ⟨JR.out.below (F82.out)⟩
   have F85 := Keep.mk (F74.out.grown (Grown.setRow wJ g9 (erA 0 0) (S := fun k => k = g9) fun _ => rfl) (fun k hk e => F74.out.ne F81.out (by decide) (e ▸ hk)))
   have F86 := Keep.mk (F75.out.grown (Grown.setRow wJ g9 (erA 0 0) (S := fun k => k = g9) fun _ => rfl) (fun k hk e => F75.out.ne F81.out (by decide) (e ▸ hk)))
   have F87 := Keep.mk (F76.out.setRow_ne (b' := g9) (fun e => n_g9_g5.out e.symm) (erA 0 0))
   have F88 := Keep.mk (F77.out.grown (Grown.setRow wJ g9 (erA 0 0) (S := fun k => k = g9) fun _ => rfl) (fun k hk e => F77.out.ne F81.out (by decide) (e ▸ hk)))
   have F89 := Keep.mk (F78.out.grown (Grown.setRow wJ g9 (erA 0 0) (S := fun k => k = g9) fun _ => rfl) (fun k hk e => F78.out.ne F81.out (by decide) (e ▸ hk)))
   have F90 := Keep.mk (F79.out.setRow_ne (b' := g9) (fun e => n_g9_g7.out e.symm) (erA 0 0))
   have F91 := Keep.mk (F80.out.setRow_ne (b' := g9) (fun e => n_g9_g8.out e.symm) (erA 0 0))
   have F92 := Keep.mk (F81.out.setRow (erA 0 0))
   clear F71 F72 F73 F74 F75 F76 F77 F78 F79 F80 F81
   generalize wJ.setRow g9 (erA 0 0) = wK at *
   simp only [Act.put]
   refine VlS (.bool true) ?_
   refine WL.nil (hK12 _ _ ?_)
   refine wp_seq_k fun K13 hK13 => ?_
   refine wp_seq_k fun K14 hK14 => rgn ?_
   refine VlS (.bool true) ?_
   refine VlS (.bool false) ?_
   refine VlS (.bool false) ?_
   refine WL.row (by kernel_rfl) 34 (.tmp 9) rfl g9 rfl 34 (erA 0 0) _ F92.out Tryz.underlying34 rfl (Tryz.size34B _ _) ?_
   simp only [Act.put, pqA, pqB, pqC]
   refine WL.row (by kernel_rfl) 34 (.tmp 8) rfl g8 rfl 34 (erA 0 0) _ F91.out Tryz.underlying34 rfl (Tryz.size34B _ _) ?_
   simp only [Act.put, pqA, pqB, pqC]
   have hne := neqE 0 0
   refine WL.val (by kernel_rfl) (.bool false) (by go_simp) ?_
   clear hne
   simp only [Act.put, pqA, pqB, pqC]
   refine VlS (.bool false) ?_
   refine VlS (.bool false) ?_
   refine WL.row (by kernel_rfl) 28 (.tmp 5) rfl g5 rfl 28 (ndA N.au N.ck (.slice pa1 N.ps.length pc1) (.slice oa1 N.ops.length oc1)) _ F87.out Tryz.underlying28 rfl (Tryz.size28B _ _ _ _) ?_
   simp only [Act.put, pqA, pqB, pqC]
   refine WL.row (by kernel_rfl) 28 (.tmp 7) rfl g7 rfl 28 (ndA N.au N.ck (.slice pa2 N.ps.length pc2) (.slice oa2 N.ops.length oc2)) _ F90.out Tryz.underlying28 rfl (Tryz.size28B _ _ _ _) ?_
   simp only [Act.put, pqA, pqB, pqC]
   refine WL.callF (by kernel_rfl) 9 _ _ rfl Tryz.in9 #[.agg (ndA N.au N.ck (.slice pa1 N.ps.length pc1) (.slice oa1 N.ops.length oc1)), .agg (ndA N.au N.ck (.slice pa2 N.ps.length pc2) (.slice oa2 N.ops.length oc2))] (by simp [Act.eval]) ?_
   refine (rsame_node N N _ _ _ _ wK (node_own HBr.out hg hN.out F85.out F86.out) (node_own HBr.out hg hN.out F88.out F89.out)).mono ?_
   rintro e wL ⟨rfl, hb⟩
   refine ⟨_, rfl, ?_⟩
   have BC_ := Keep.mk hb
   clear hb
   have F93 := Keep.mk (F82.out.trans ((BC_.out).mono F82.out.size))
   have F94 := Keep.mk (F83.out.below BC_.out)
   have F95 := Keep.mk (F84.out.below BC_.out)
   have F96 := Keep.mk (F85.out.below BC_.out)
   have F97 := Keep.mk (F86.out.below BC_.out)
   have F98 := Keep.mk (F87.out.below BC_.out F87.out.lt)
   have F99 := Keep.mk (F88.out.below BC_.out)
   have F100 := Keep.mk (F89.out.below BC_.out)
   have F101 := Keep.mk (F90.out.below BC_.out F90.out.lt)
   have F102 := Keep.mk (F91.out.below BC_.out F91.out.lt)
   have F103 := Keep.mk (F92.out.below BC_.out F92.out.lt)
   clear F82 F83 F84 F85 F86 F87 F88 F89 F90 F91 F92
   rw [sameN_refl]
   clear BC_
   simp only [Act.put, pqA, pqB, pqC]
   refine VlS (.bool false) ?_
   refine VlS (.bool false) ?_
   refine WL.nil (hK14 _ _ ?_)
   refine wp_cond_false rfl ?_
   refine wp_skip ?_
   refine hK13 _ _ ?_
   refine wp_seq_k fun K15 hK15 => rgn ?_
   refine VlS (.slice ra r.length rc) ?_
   refine WL.callF (by kernel_rfl) 10 _ _ rfl Tryz.in10 #[.slice ra r.length rc] (by simp [Act.eval]) ?_
   refine (ent_good _ r wL F94.out HBr.out Hrl.out hg N hN.out).mono ?_
   rintro e wM ⟨pa3, pc3, oa3, oc3, rfl, h1, h2, hb⟩
   refine ⟨_, rfl, ?_⟩
   have BC_ := Keep.mk hb
   clear hb
   have F104 := Keep.mk (F93.out.trans ((BC_.out).mono F93.out.size))
   have F105 := Keep.mk (F94.out.below BC_.out)
   have F106 := Keep.mk (F95.out.below BC_.out)
   have F107 := Keep.mk (F102.out.below BC_.out F102.out.lt)
   have F108 := Keep.mk (F103.out.below BC_.out F103.out.lt)
   clear F93 F94 F95 F102 F103
   have O3 := Keep.mk h1
   have Q3 := Keep.mk h2
   clear h1 h2
   rw [hhc.out]
   obtain ⟨EN3, hEN3⟩ : ∃ E, Keep (E = enA hc (ndA N.au N.ck (.slice pa3 N.ps.length pc3) (.slice oa3 N.ops.length oc3))) := ⟨_, ⟨rfl⟩⟩
   rw [← hEN3.out]
   have HE3s : Keep (EN3.size = 36) := ⟨by rw [hEN3.out]; exact enA_size _ _ _ _ _⟩
   have HE3o : Keep (EN3.all (·.oneCell') = true) := ⟨by rw [hEN3.out]; exact enA_one _ _ _ _ _ _ _ _ _⟩
   clear BC_
   simp only [Act.put, pqA, pqB, pqC]
   refine VlS (.tuple #[.agg EN3, .nilIface]) ?_
   refine VlS (.agg EN3) ?_
   refine VlS (.nilIface) ?_
   refine WL.new (by kernel_rfl) 43 rfl ZE (fun w => by rw [hZE.out]; exact Tryz.new43 w) ?_
   have HN_ := Keep.mk (Blk.new wM 43 (ZE))
   have BN_ := Keep.mk (below_new wM (.cells (ZE) 43))
   generalize wM.alloc (.cells (ZE) 43) = wN at *
   obtain ⟨g11, hg11⟩ : ∃ g, Keep (g = wM.heap.size) := ⟨_, ⟨rfl⟩⟩
   rw [← hg11.out] at HN_ ⊢
   have n_g11_g8 : Keep (g11 ≠ g8) := ⟨fun e => by have h1 := F107.out.lt; have h2 := hg11.out; omega⟩
   have n_g11_g9 : Keep (g11 ≠ g9) := ⟨fun e => by have h1 := F108.out.lt; have h2 := hg11.out; omega⟩
   have l_g11 : Keep (wr.heap.size ≤ g11) := ⟨by rw [hg11.out]; exact F104.out.size⟩
   clear hg11
   have F109 := Keep.mk (F104.out.trans ((BN_.out).mono F104.out.size))
   have F110 := Keep.mk (F105.out.below BN_.out)
   have F111 := Keep.mk (F106.out.below BN_.out)
   have F112 := Keep.mk (F107.out.below BN_.out F107.out.lt)
   have F113 := Keep.mk (F108.out.below BN_.out F108.out.lt)
   have F114 := Keep.mk (O3.out.below BN_.out)
   have F115 := Keep.mk (Q3.out.below BN_.out)
   clear F104 F105 F106 F107 F108 O3 Q3
   clear BN_
   have F116 := Keep.mk HN_.out
   clear HN_
   simp only [Act.put, pqA, pqB, pqC]
   refine WL.storeR (by kernel_rfl) 43 (.tmp 11) (.tmp 52) rfl g11 (EN3) rfl rfl 43 (ZE) F116.out (by rw [HE3s.out]; exact Tryz.size43) (by rw [hZE.out, zEn_size, HE3s.out]) (HE3o.out) ?_
   have F117 := Keep.mk (below_setRow F109.out (b := g11) (l_g11.out) (EN3))
   have F118 : Keep (RowAt (wN.setRow g11 (EN3)) (.slice ra r.length rc) r) := ⟨JWb.out.below (F117.out)⟩
   have F119 : Keep (RwsAt (wN.setRow g11 (EN3)) (.slice (some ⟨q0, o0, none⟩) ls.length vc) ls) := ⟨JR.out.below (F117.out)⟩
   have F120 := Keep.mk (F112.out.setRow_ne (b' := g11) (fun e => n_g11_g8.out e.symm) (EN3))
   have F121 := Keep.mk (F113.out.setRow_ne (b' := g11) (fun e => n_g11_g9.out e.symm) (EN3))
   have F122 := Keep.mk (F114.out.grown (Grown.setRow wN g11 (EN3) (S := fun k => k = g11) fun _ => rfl) (fun k hk e => F114.out.ne F116.out (by decide) (e ▸ hk)))
   have F123 := Keep.mk (F115.out.grown (Grown.setRow wN g11 (EN3) (S := fun k => k = g11) fun _ => rfl) (fun k hk e => F115.out.ne F116.out (by decide) (e ▸ hk)))
   have F124 := Keep.mk (F116.out.setRow (EN3))
   clear F109 F110 F111 F112 F113 F114 F115 F116
   generalize wN.setRow g11 (EN3) = wO at *
   simp only [Act.put]
   refine VlS (.nilIface) ?_
   refine WL.nil (hK15 _ _ ?_)
   refine wp_seq_k fun K16 hK16 => rgn ?_
   refine VlS (.slice ra r.length rc) ?_
   refine WL.callF (by kernel_rfl) 11 _ _ rfl Tryz.in11 #[.slice ra r.length rc] (by simp [Act.eval]) ?_
   refine (rent_good _ r wO F118.out HBr.out Hrl.out hg N hN.out).mono ?_
   rintro e wP ⟨pa4, pc4, oa4, oc4, rfl, h1, h2, hb⟩
   refine ⟨_, rfl, ?_⟩
   have BC_ := Keep.mk hb
   clear hb
   have F125 := Keep.mk (F117.out.trans ((BC_.out).mono F117.out.size))
   have F126 := Keep.mk (F118.out.below BC_.out)
   have F127 := Keep.mk (F119.out.below BC_.out)
   have F128 := Keep.mk (F120.out.below BC_.out F120.out.lt)
   have F129 := Keep.mk (F121.out.below BC_.out F121.out.lt)
   have F130 := Keep.mk (F122.out.below BC_.out)
   have F131 := Keep.mk (F123.out.below BC_.out)
   have F132 := Keep.mk (F124.out.below BC_.out F124.out.lt)
   clear F117 F118 F119 F120 F121 F122 F123 F124
   have O4 := Keep.mk h1
   have Q4 := Keep.mk h2
   clear h1 h2
   rw [hhc.out]
   obtain ⟨EN4, hEN4⟩ : ∃ E, Keep (E = enA hc (ndA N.au N.ck (.slice pa4 N.ps.length pc4) (.slice oa4 N.ops.length oc4))) := ⟨_, ⟨rfl⟩⟩
   rw [← hEN4.out]
   have HE4s : Keep (EN4.size = 36) := ⟨by rw [hEN4.out]; exact enA_size _ _ _ _ _⟩
   have HE4o : Keep (EN4.all (·.oneCell') = true) := ⟨by rw [hEN4.out]; exact enA_one _ _ _ _ _ _ _ _ _⟩
   clear BC_
   simp only [Act.put, pqA, pqB, pqC]
   refine VlS (.tuple #[.agg EN4, .agg (erA 0 0)]) ?_
   refine VlS (.agg EN4) ?_
   refine VlS (.agg (erA 0 0)) ?_
   refine WL.new (by kernel_rfl) 43 rfl ZE (fun w => by rw [hZE.out]; exact Tryz.new43 w) ?_
   have HN_ := Keep.mk (Blk.new wP 43 (ZE))
   have BN_ := Keep.mk (below_new wP (.cells (ZE) 43))
   generalize wP.alloc (.cells (ZE) 43) = wQ at *
   obtain ⟨g12, hg12⟩ : ∃ g, Keep (g = wP.heap.size) := ⟨_, ⟨rfl⟩⟩
   rw [← hg12.out] at HN_ ⊢
   have n_g12_g8 : Keep (g12 ≠ g8) := ⟨fun e => by have h1 := F128.out.lt; have h2 := hg12.out; omega⟩
   have n_g12_g9 : Keep (g12 ≠ g9) := ⟨fun e => by have h1 := F129.out.lt; have h2 := hg12.out; omega⟩
   have n_g12_g11 : Keep (g12 ≠ g11) := ⟨fun e => by have h1 := F132.out.lt; have h2 := hg12.out; omega⟩
   have l_g12 : Keep (wr.heap.size ≤ g12) := ⟨by rw [hg12.out]; exact F125.out.size⟩
   clear hg12
   have F133 := Keep.mk (F125.out.trans ((BN_.out).mono F125.out.size))
   have F134 := Keep.mk (F126.out.below BN_.out)
   have F135 := Keep.mk (F127.out.below BN_.out)
   have F136 := Keep.mk (F128.out.below BN_.out F128.out.lt)
   have F137 := Keep.mk (F129.out.below BN_.out F129.out.lt)
   have F138 := Keep.mk (F130.out.below BN_.out)
   have F139 := Keep.mk (F131.out.below BN_.out)
   have F140 := Keep.mk (F132.out.below BN_.out F132.out.lt)
   have F141 := Keep.mk (O4.out.below BN_.out)
   have F142 := Keep.mk (Q4.out.below BN_.out)
   clear F125 F126 F127 F128 F129 F130 F131 F132 O4 Q4
   clear BN_
   have F143 := Keep.mk HN_.out
   clear HN_
   simp only [Act.put, pqA, pqB, pqC]
   refine WL.storeR (by kernel_rfl) 43 (.tmp 12) (.tmp 57) rfl g12 (EN4) rfl rfl 43 (ZE) F143.out (by rw [HE4s.out]; exact Tryz.size43) (by rw [hZE.out, zEn_size, HE4s.out]) (HE4o.out) ?_
   have F144 := Keep.mk (below_setRow F133.out (b := g12) (l_g12.out) (EN4))
   have F145 : Keep (RowAt (wQ.setRow g12 (EN4)) (.slice ra r.length rc) r) := ⟨JWb.out.below (F144.out)⟩
   have F146 : Keep (RwsAt (wQ.setRow g12 (EN4)) (.slice (some ⟨q0, o0, none⟩) ls.length vc) ls) := ⟨JR.out.below (F144.out)⟩
   have F147 := Keep.mk (F136.out.setRow_ne (b' := g12) (fun e => n_g12_g8.out e.symm) (EN4))
   have F148 := Keep.mk (F137.out.setRow_ne (b' := g12) (fun e => n_g12_g9.out e.symm) (EN4))
   have F149 := Keep.mk (F138.out.grown (Grown.setRow wQ g12 (EN4) (S := fun k => k = g12) fun _ => rfl) (fun k hk e => F138.out.ne F143.out (by decide) (e ▸ hk)))
   have F150 := Keep.mk (F139.out.grown (Grown.setRow wQ g12 (EN4) (S := fun k => k = g12) fun _ => rfl) (fun k hk e => F139.out.ne F143.out (by decide) (e ▸ hk)))
   have F151 := Keep.mk (F140.out.setRow_ne (b' := g12) (fun e => n_g12_g11.out e.symm) (EN4))
   have F152 := Keep.mk (F141.out.grown (Grown.setRow wQ g12 (EN4) (S := fun k => k = g12) fun _ => rfl) (fun k hk e => F141.out.ne F143.out (by decide) (e ▸ hk)))
   have F153 := Keep.mk (F142.out.grown (Grown.setRow wQ g12 (EN4) (S := fun k => k = g12) fun _ => rfl) (fun k hk e => F142.out.ne F143.out (by decide) (e ▸ hk)))
   have F154 := Keep.mk (F143.out.setRow (EN4))
   clear F133 F134 F135 F136 F137 F138 F139 F140 F141 F142 F143
   generalize wQ.setRow g12 (EN4) = wR at *
   simp only [Act.put]
   refine WL.storeR (by kernel_rfl) 34 (.tmp 8) (.tmp 58) rfl g8 (erA 0 0) rfl rfl 34 (erA 0 0) F147.out (Tryz.size34B _ _) (erA_sizes _ _ _ _) (erA_one _ _) ?_
   have F155 := Keep.mk (below_setRow F144.out (b := g8) (l_g8.out) (erA 0 0))
   have F156 : Keep (RowAt (wR.setRow g8 (erA 0 0)) (.slice ra r.length rc) r) := ⟨JWb.out.below (F155.out)⟩
   have F157 : Keep (RwsAt (wR.setRow g8 (erA 0 0)) (.slice (some ⟨q0, o0, none⟩) ls.length vc) ls) := ⟨JR.out.below (F155.out)⟩
   have F158 := Keep.mk (F147.out.setRow (erA 0 0))
   have F159 := Keep.mk (F148.out.setRow_ne (b' := g8) n_g9_g8.out (erA 0 0))
   have F160 := Keep.mk (F149.out.grown (Grown.setRow wR g8 (erA 0 0) (S := fun k => k = g8) fun _ => rfl) (fun k hk e => F149.out.ne F147.out (by decide) (e ▸ hk)))
   have F161 := Keep.mk (F150.out.grown (Grown.setRow wR g8 (erA 0 0) (S := fun k => k = g8) fun _ => rfl) (fun k hk e => F150.out.ne F147.out (by decide) (e ▸ hk)))
   have F162 := Keep.mk (F151.out.setRow_ne (b' := g8) n_g11_g8.out (erA 0 0))
   have F163 := Keep.mk (F152.out.grown (Grown.setRow wR g8 (erA 0 0) (S := fun k => k = g8) fun _ => rfl) (fun k hk e => F152.out.ne F147.out (by decide) (e ▸ hk)))
   have F164 := Keep.mk (F153.out.grown (Grown.setRow wR g8 (erA 0 0) (S := fun k => k = g8) fun _ => rfl) (fun k hk e => F153.out.ne F147.out (by decide) (e ▸ hk)))
   have F165 := Keep.mk (F154.out.setRow_ne (b' := g8) n_g12_g8.out (erA 0 0))
   clear F144 F145 F146 F147 F148 F149 F150 F151 F152 F153 F154
   generalize wR.setRow g8 (erA 0 0) = wS at *
   simp only [Act.put]
   refine WL.nil (hK16 _ _ ?_)
   refine wp_seq_k fun K17 hK17 => rgn ?_
   refine VlS (.nilIface) ?_
   refine WL.callF (by kernel_rfl) 8 _ _ rfl Tryz.in8 #[.nilIface] (by simp [Act.eval]) ?_
   refine (told_nil wS).mono ?_
   rintro e wT ⟨rfl, hb⟩
   refine ⟨_, rfl, ?_⟩
   have BC_ := Keep.mk hb
   clear hb
   have F166 := Keep.mk (F155.out.trans ((BC_.out).mono F155.out.size))
   have F167 := Keep.mk (F156.out.below BC_.out)
   have F168 := Keep.mk (F157.out.below BC_.out)
   have F169 := Keep.mk (F158.out.below BC_.out F158.out.lt)
   have F170 := Keep.mk (F159.out.below BC_.out F159.out.lt)
   have F171 := Keep.mk (F160.out.below BC_.out)
   have F172 := Keep.mk (F161.out.below BC_.out)
   have F173 := Keep.mk (F162.out.below BC_.out F162.out.lt)
   have F174 := Keep.mk (F163.out.below BC_.out)
   have F175 := Keep.mk (F164.out.below BC_.out)
   have F176 := Keep.mk (F165.out.below BC_.out F165.out.lt)
   clear F155 F156 F157 F158 F159 F160 F161 F162 F163 F164 F165
   clear BC_
   simp only [Act.put, pqA, pqB, pqC]
   refine VlS (.tuple #[.agg (erA 0 0), .bool true]) ?_
   refine VlS (.agg (erA 0 0)) ?_
   refine VlS (.bool true) ?_
   refine WL.storeR (by kernel_rfl) 34 (.tmp 9) (.tmp 62) rfl g9 (erA 0 0) rfl rfl 34 (erA 0 0) F170.out (Tryz.size34B _ _) (erA_sizes _ _ _ _) (erA_one _ _) ?_
   have F177 := Keep.mk (below_setRow F166.out (b := g9) (l_g9.out) (erA 0 0))
   have F178 : Keep (RowAt (wT.setRow g9 (erA 0 0)) (.slice ra r.length rc) r) := ⟨JWb.out.below (F177.out)⟩
   have F179 : Keep (RwsAt (wT.setRow g9 (erA 0 0)) (.slice (some ⟨q0, o0, none⟩) ls.length vc) ls) := ⟨JR.out.below (F177.out)⟩
   have F180 := Keep.mk (F169.out.setRow_ne (b' := g9) (fun e => n_g9_g8.out e.symm) (erA 0 0))
   have F181 := Keep.mk (F170.out.setRow (erA 0 0))
   have F182 := Keep.mk (F171.out.grown (Grown.setRow wT g9 (erA 0 0) (S := fun k => k = g9) fun _ => rfl) (fun k hk e => F171.out.ne F170.out (by decide) (e ▸ hk)))
   have F183 := Keep.mk (F172.out.grown (Grown.setRow wT g9 (erA 0 0) (S := fun k => k = g9) fun _ => rfl) (fun k hk e => F172.out.ne F170.out (by decide) (e ▸ hk)))
   have F184 := Keep.mk (F173.out.setRow_ne (b' := g9) n_g11_g9.out (erA 0 0))
   have F185 := Keep.mk (F174.out.grown (Grown.setRow wT g9 (erA 0 0) (S := fun k => k = g9) fun _ => rfl) (fun k hk e => F174.out.ne F170.out (by decide) (e ▸ hk)))
   have F186 := Keep.mk (F175.out.grown (Grown.setRow wT g9 (erA 0 0) (S := fun k => k = g9) fun _ => rfl) (fun k hk e => F175.out.ne F170.out (by decide) (e ▸ hk)))
   have F187 := Keep.mk (F176.out.setRow_ne (b' := g9) n_g12_g9.out (erA 0 0))
   clear F166 F167 F168 F169 F170 F171 F172 F173 F174 F175 F176
   generalize wT.setRow g9 (erA 0 0) = wU at *
   simp only [Act.put]
   refine VlS (.bool true) ?_
   refine WL.nil (hK17 _ _ ?_)
   refine wp_seq_k fun K18 hK18 => rgn ?_
   refine VlS (.bool true) ?_
   refine VlS (.bool false) ?_
   refine VlS (.bool false) ?_
   refine WL.row (by kernel_rfl) 34 (.tmp 9) rfl g9 rfl 34 (erA 0 0) _ F181.out Tryz.underlying34 rfl (Tryz.size34B _ _) ?_
   simp only [Act.put, pqA, pqB, pqC]
   refine WL.row (by kernel_rfl) 34 (.tmp 8) rfl g8 rfl 34 (erA 0 0) _ F180.out Tryz.underlying34 rfl (Tryz.size34B _ _) ?_
   simp only [Act.put, pqA, pqB, pqC]
   have hne := neqE 0 0
   refine WL.val (by kernel_rfl) (.bool false) (by go_simp) ?_
   clear hne
   simp only [Act.put, pqA, pqB, pqC]
   refine VlS (.bool false) ?_
   refine VlS (.bool false) ?_
   refine WL.row (by kernel_rfl) 43 (.tmp 11) rfl g11 rfl 43 (EN3) _ F184.out Tryz.underlying43 rfl (by rw [HE3s.out]; exact Tryz.size43) ?_
   simp only [Act.put, pqA, pqB, pqC]
   refine WL.row (by kernel_rfl) 43 (.tmp 12) rfl g12 rfl 43 (EN4) _ F187.out Tryz.underlying43 rfl (by rw [HE4s.out]; exact Tryz.size43) ?_
   simp only [Act.put, pqA, pqB, pqC]
   have HC74 := sameEntry_eq hc N _ _ _ _ wU (node_own HBr.out hg hN.out F182.out F183.out) (node_own HBr.out hg hN.out F185.out F186.out)
   rw [← hEN3.out, ← hEN4.out] at HC74
   refine WL.callF (by kernel_rfl) 12 _ _ rfl Tryz.in12 #[.agg EN3, .agg EN4] (by simp [Act.eval]) ?_
   refine (HC74).mono ?_
   rintro e wV ⟨rfl, hb⟩
   refine ⟨_, rfl, ?_⟩
   have BC_ := Keep.mk hb
   clear hb
   have F188 := Keep.mk (F177.out.trans ((BC_.out).mono F177.out.size))
   have F189 := Keep.mk (F178.out.below BC_.out)
   have F190 := Keep.mk (F179.out.below BC_.out)
   have F191 := Keep.mk (F180.out.below BC_.out F180.out.lt)
   have F192 := Keep.mk (F181.out.below BC_.out F181.out.lt)
   have F193 := Keep.mk (F182.out.below BC_.out)
   have F194 := Keep.mk (F183.out.below BC_.out)
   have F195 := Keep.mk (F184.out.below BC_.out F184.out.lt)
   have F196 := Keep.mk (F185.out.below BC_.out)
   have F197 := Keep.mk (F186.out.below BC_.out)
   have F198 := Keep.mk (F187.out.below BC_.out F187.out.lt)
   clear F177 F178 F179 F180 F181 F182 F183 F184 F185 F186 F187
   clear BC_
   simp only [Act.put, pqA, pqB, pqC]
   refine VlS (.bool false) ?_
   refine VlS (.bool false) ?_
   refine WL.nil (hK18 _ _ ?_)
   refine wp_cond_false rfl ?_
   refine wp_skip ?_
   refine hK8 _ _ ?_
   refine rgn ?_
   refine VlS (.int .i64 ((t : Int) + 1)) ?_
   refine VlS (.int .i64 ((t : Int) + 1)) ?_
   refine WL.nil ?_
   refine ⟨⟨t + 1, fun i => [.slice (some ⟨q0, o0, none⟩) ls.length vc, undef, f 2, undef, .slice ra r.length rc, .pointer (some ⟨g5, 0, none⟩), .nilIface, .pointer (some ⟨g7, 0, none⟩), .pointer (some ⟨g8, 0, none⟩), .pointer (some ⟨g9, 0, none⟩), .bool true, .pointer (some ⟨g11, 0, none⟩), .pointer (some ⟨g12, 0, none⟩), .bool true, .bool false, .slice (some ⟨q0, o0, none⟩) ls.length vc, .int .i64 (ls.length : Int), .int .i64 ((t : Int) + 1), .bool true, .pointer (some ⟨q0, o0 + t, none⟩), .slice ra r.length rc, .tuple #[.agg (ndA N.au N.ck (.slice pa1 N.ps.length pc1) (.slice oa1 N.ops.length oc1)), .nilIface], .slice ra r.length rc, .tuple #[.agg (ndA N.au N.ck (.slice pa1 N.ps.length pc1) (.slice oa1 N.ops.length oc1)), .nilIface], .agg (ndA N.au N.ck (.slice pa1 N.ps.length pc1) (.slice oa1 N.ops.length oc1)), .nilIface, .tuple #[.agg (ndA N.au N.ck (.slice pa2 N.ps.length pc2) (.slice oa2 N.ops.length oc2)), .agg (erA 0 0)], .slice ra r.length rc, .tuple #[.agg (ndA N.au N.ck (.slice pa2 N.ps.length pc2) (.slice oa2 N.ops.length oc2)), .agg (erA 0 0)], .agg (ndA N.au N.ck (.slice pa2 N.ps.length pc2) (.slice oa2 N.ops.length oc2)), .agg (erA 0 0), .tuple #[.agg (erA 0 0), .bool true], .nilIface, .tuple #[.agg (erA 0 0), .bool true], .agg (erA 0 0), .bool true, .bool true, .bool false, .bool false, .agg (erA 0 0), .agg (erA 0 0), .bool false, .bool false, .bool false, .agg (ndA N.au N.ck (.slice pa1 N.ps.length pc1) (.slice oa1 N.ops.length oc1)), .agg (ndA N.au N.ck (.slice pa2 N.ps.length pc2) (.slice oa2 N.ops.length oc2)), .bool true, .bool false, .bool false, .tuple #[.agg EN3, .nilIface], .slice ra r.length rc, .tuple #[.agg EN3, .nilIface], .agg EN3, .nilIface, .tuple #[.agg EN4, .agg (erA 0 0)], .slice ra r.length rc, .tuple #[.agg EN4, .agg (erA 0 0)], .agg EN4, .agg (erA 0 0), .tuple #[.agg (erA 0 0), .bool true], .nilIface, .tuple #[.agg (erA 0 0), .bool true], .agg (erA 0 0), .bool true, .bool true, .bool false, .bool false, .agg (erA 0 0), .agg (erA 0 0), .bool false, .bool false, .bool false, .agg (EN3), .agg (EN4), .bool true, .bool false, .bool false, .int .i64 ((t : Int) + 1)].getD i undef, rfl, by omega, F190.out, JT.out.trans (F188.out.mono JT.out.size)⟩, ?_⟩
   simp only [intOf]; show ls.length - ((t : Int) + 1).toNat < ls.length - ((t : Int)).toNat; omega
  ·obtain ⟨W, hW⟩ : ∃ z, Keep (z = (badR r).1) := ⟨_, ⟨rfl⟩⟩
   obtain ⟨b, hb⟩ : ∃ z, Keep (z = (badR r).2) := ⟨_, ⟨rfl⟩⟩
   have hb' : Keep ((b : Int) = ((badR r).2 : Int)) := ⟨by rw [hb.out]⟩
   have hWn : Keep (W ≠ 0) := ⟨by rw [hW.out]; exact bad_why hg⟩
   refine wp_seq_k fun K19 hK19 => rgn ?_
   refine VlS (.bool true) ?_
   refine WL.nil (hK19 _ _ ?_)
   refine wp_seq_k fun K20 hK20 => ?_
   refine wp_cond_true rfl ?_
   refine wp_skip ?_
   refine hK20 _ _ ?_
   refine wp_seq_k fun K21 hK21 => ?_
   refine wp_block ?_
   refine wp_seq_k fun K22 hK22 => rgn ?_
   refine VlS (.pointer (some ⟨q0, o0 + t, none⟩)) ?_
   refine VlS (.slice ra r.length rc) ?_
   refine VlS (.slice ra r.length rc) ?_
   refine WL.nil (hK22 _ _ ?_)
   refine wp_seq_k fun K23 hK23 => rgn ?_
   refine VlS (.slice ra r.length rc) ?_
   refine WL.callF (by kernel_rfl) 6 _ _ rfl Tryz.in6 #[.slice ra r.length rc] (by simp [Act.eval]) ?_
   refine (dec_bad _ r wr JW.out HBr.out Hrl.out hg).mono ?_
   rintro e wA ⟨q, rfl, h1, hb⟩
   refine ⟨_, rfl, ?_⟩
   have BC_ := Keep.mk hb
   clear hb
   have F1 := Keep.mk (JTr.out.trans ((BC_.out).mono JTr.out.size))
   have F2 := Keep.mk (JW.out.below BC_.out)
   have F3 := Keep.mk (JR2.out.below BC_.out)
   clear JTr JW JR2
   rw [← hW.out, ← hb.out] at h1
   have HBd : Keep (BadAt wA q W b) := ⟨h1⟩
   clear h1
   unfold err
   clear BC_
   simp only [Act.put, pqA, pqB, pqC]
   refine VlS (.tuple #[.agg (ndA 0 0 noS noS), .iface 69 (ptr q)]) ?_
   refine VlS (.agg (ndA 0 0 noS noS)) ?_
   refine VlS (.iface 69 (ptr q)) ?_
   refine WL.new (by kernel_rfl) 28 rfl _ Tryz.new28N ?_
   have HN_ := Keep.mk (Blk.new wA 28 (ndA 0 0 noS noS))
   have BN_ := Keep.mk (below_new wA (.cells (ndA 0 0 noS noS) 28))
   generalize wA.alloc (.cells (ndA 0 0 noS noS) 28) = wB at *
   obtain ⟨g5, hg5⟩ : ∃ g, Keep (g = wA.heap.size) := ⟨_, ⟨rfl⟩⟩
   rw [← hg5.out] at HN_ ⊢
   have l_g5 : Keep (wr.heap.size ≤ g5) := ⟨by rw [hg5.out]; exact F1.out.size⟩
   clear hg5
   have F4 := Keep.mk (F1.out.trans ((BN_.out).mono F1.out.size))
   have F5 := Keep.mk (F2.out.below BN_.out)
   have F6 := Keep.mk (F3.out.below BN_.out)
   have F7 := Keep.mk (HBd.out.below BN_.out HBd.out.lt)
   clear F1 F2 F3 HBd
   clear BN_
   have F8 := Keep.mk HN_.out
   clear HN_
   simp only [Act.put, pqA, pqB, pqC]
   refine WL.storeR (by kernel_rfl) 28 (.tmp 5) (.tmp 24) rfl g5 (ndA 0 0 noS noS) rfl rfl 28 (ndA 0 0 noS noS) F8.out (Tryz.size28B _ _ _ _) (rfl) (nd_one 0 0 none 0 0 none 0 0) ?_
   have F9 := Keep.mk (below_setRow F4.out (b := g5) (l_g5.out) (ndA 0 0 noS noS))
   have F10 : Keep (RowAt (wB.setRow g5 (ndA 0 0 noS noS)) (.slice ra r.length rc) r) := ⟨JWb.out.below (F9.out)⟩
   have F11 : Keep (RwsAt (wB.setRow g5 (ndA 0 0 noS noS)) (.slice (some ⟨q0, o0, none⟩) ls.length vc) ls) := ⟨JR.out.below (F9.out)⟩
   have F12 := Keep.mk (F7.out.setRow_ne (b' := g5) (blk_ne F7.out F8.out (by decide)) (ndA 0 0 noS noS))
   have F13 := Keep.mk (F8.out.setRow (ndA 0 0 noS noS))
   clear F4 F5 F6 F7 F8
   generalize wB.setRow g5 (ndA 0 0 noS noS) = wC at *
   simp only [Act.put]
   refine VlS (.iface 69 (ptr q)) ?_
   refine WL.nil (hK23 _ _ ?_)
   refine wp_seq_k fun K24 hK24 => rgn ?_
   refine VlS (.slice ra r.length rc) ?_
   refine WL.callF (by kernel_rfl) 7 _ _ rfl Tryz.in7 #[.slice ra r.length rc] (by simp [Act.eval]) ?_
   refine (rdec_bad _ r wC F10.out HBr.out Hrl.out hg).mono ?_
   rintro e wD ⟨rfl, hb⟩
   refine ⟨_, rfl, ?_⟩
   have BC_ := Keep.mk hb
   clear hb
   have F14 := Keep.mk (F9.out.trans ((BC_.out).mono F9.out.size))
   have F15 := Keep.mk (F10.out.below BC_.out)
   have F16 := Keep.mk (F11.out.below BC_.out)
   have F17 := Keep.mk (F12.out.below BC_.out F12.out.lt)
   have F18 := Keep.mk (F13.out.below BC_.out F13.out.lt)
   clear F9 F10 F11 F12 F13
   rw [← hW.out, ← hb'.out]
   clear BC_
   simp only [Act.put, pqA, pqB, pqC]
   refine VlS (.tuple #[.agg (ndA 0 0 noS noS), .agg (erA W (b : Int))]) ?_
   refine VlS (.agg (ndA 0 0 noS noS)) ?_
   refine VlS (.agg (erA W (b : Int))) ?_
   refine WL.new (by kernel_rfl) 28 rfl _ Tryz.new28N ?_
   have HN_ := Keep.mk (Blk.new wD 28 (ndA 0 0 noS noS))
   have BN_ := Keep.mk (below_new wD (.cells (ndA 0 0 noS noS) 28))
   generalize wD.alloc (.cells (ndA 0 0 noS noS) 28) = wE at *
   obtain ⟨g7, hg7⟩ : ∃ g, Keep (g = wD.heap.size) := ⟨_, ⟨rfl⟩⟩
   rw [← hg7.out] at HN_ ⊢
   have n_g7_g5 : Keep (g7 ≠ g5) := ⟨fun e => by have h1 := F18.out.lt; have h2 := hg7.out; omega⟩
   have l_g7 : Keep (wr.heap.size ≤ g7) := ⟨by rw [hg7.out]; exact F14.out.size⟩
   clear hg7
   have F19 := Keep.mk (F14.out.trans ((BN_.out).mono F14.out.size))
   have F20 := Keep.mk (F15.out.below BN_.out)
   have F21 := Keep.mk (F16.out.below BN_.out)
   have F22 := Keep.mk (F17.out.below BN_.out F17.out.lt)
   have F23 := Keep.mk (F18.out.below BN_.out F18.out.lt)
   clear F14 F15 F16 F17 F18
   clear BN_
   have F24 := Keep.mk HN_.out
   clear HN_
   simp only [Act.put, pqA, pqB, pqC]
   refine WL.new (by kernel_rfl) 34 rfl _ Tryz.new34E ?_
   have HN_ := Keep.mk (Blk.new wE 34 (erA 0 0))
   have BN_ := Keep.mk (below_new wE (.cells (erA 0 0) 34))
   generalize wE.alloc (.cells (erA 0 0) 34) = wF at *
   obtain ⟨g8, hg8⟩ : ∃ g, Keep (g = wE.heap.size) := ⟨_, ⟨rfl⟩⟩
   rw [← hg8.out] at HN_ ⊢
   have n_g8_g5 : Keep (g8 ≠ g5) := ⟨fun e => by have h1 := F23.out.lt; have h2 := hg8.out; omega⟩
   have n_g8_g7 : Keep (g8 ≠ g7) := ⟨fun e => by have h1 := F24.out.lt; have h2 := hg8.out; omega⟩
   have l_g8 : Keep (wr.heap.size ≤ g8) := ⟨by rw [hg8.out]; exact F19.out.size⟩
   clear hg8
   have F25 := Keep.mk (F19.out.trans ((BN_.out).mono F19.out.size))
   have F26 := Keep.mk (F20.out.below BN_.out)
   have F27 := Keep.mk (F21.out.below BN_.out)
   have F28 := Keep.mk (F22.out.below BN_.out F22.out.lt)
   have F29 := Keep.mk (F23.out.below BN_.out F23.out.lt)
   have F30 := Keep.mk (F24.out.below BN_.out F24.out.lt)
   clear F19 F20 F21 F22 F23 F24
   clear BN_
   have F31 := Keep.mk HN_.out
   clear HN_
   simp only [Act.put, pqA, pqB, pqC]
   refine WL.storeR (by kernel_rfl) 28 (.tmp 7) (.tmp 29) rfl g7 (ndA 0 0 noS noS) rfl rfl 28 (ndA 0 0 noS noS) F30.out (Tryz.size28B _ _ _ _) (rfl) (nd_one 0 0 none 0 0 none 0 0) ?_
   have F32 := Keep.mk (below_setRow F25.out (b := g7) (l_g7.out) (ndA 0 0 noS noS))
   have F33 : Keep (RowAt (wF.setRow g7 (ndA 0 0 noS noS)) (.slice ra r.length rc) r) := ⟨JWb.out.below (F32.out)⟩
   have F34 : Keep (RwsAt (wF.setRow g7 (ndA 0 0 noS noS)) (.slice (some ⟨q0, o0, none⟩) ls.length vc) ls) := ⟨JR.out.below (F32.out)⟩
   have F35 := Keep.mk (F28.out.setRow_ne (b' := g7) (blk_ne F28.out F30.out (by decide)) (ndA 0 0 noS noS))
   have F36 := Keep.mk (F29.out.setRow_ne (b' := g7) (fun e => n_g7_g5.out e.symm) (ndA 0 0 noS noS))
   have F37 := Keep.mk (F30.out.setRow (ndA 0 0 noS noS))
   have F38 := Keep.mk (F31.out.setRow_ne (b' := g7) n_g8_g7.out (ndA 0 0 noS noS))
   clear F25 F26 F27 F28 F29 F30 F31
   generalize wF.setRow g7 (ndA 0 0 noS noS) = wG at *
   simp only [Act.put]
   refine WL.storeR (by kernel_rfl) 34 (.tmp 8) (.tmp 30) rfl g8 (erA W (b : Int)) rfl rfl 34 (erA 0 0) F38.out (Tryz.size34B _ _) (erA_sizes _ _ _ _) (erA_one _ _) ?_
   have F39 := Keep.mk (below_setRow F32.out (b := g8) (l_g8.out) (erA W (b : Int)))
   have F40 : Keep (RowAt (wG.setRow g8 (erA W (b : Int))) (.slice ra r.length rc) r) := ⟨JWb.out.below (F39.out)⟩
   have F41 : Keep (RwsAt (wG.setRow g8 (erA W (b : Int))) (.slice (some ⟨q0, o0, none⟩) ls.length vc) ls) := ⟨JR.out.below (F39.out)⟩
   have F42 := Keep.mk (F35.out.setRow_ne (b' := g8) (blk_ne F35.out F38.out (by decide)) (erA W (b : Int)))
   have F43 := Keep.mk (F36.out.setRow_ne (b' := g8) (fun e => n_g8_g5.out e.symm) (erA W (b : Int)))
   have F44 := Keep.mk (F37.out.setRow_ne (b' := g8) (fun e => n_g8_g7.out e.symm) (erA W (b : Int)))
   have F45 := Keep.mk (F38.out.setRow (erA W (b : Int)))
   clear F32 F33 F34 F35 F36 F37 F38
   generalize wG.setRow g8 (erA W (b : Int)) = wH at *
   simp only [Act.put]
   refine WL.nil (hK24 _ _ ?_)
   refine wp_seq_k fun K25 hK25 => rgn ?_
   refine VlS (.iface 69 (ptr q)) ?_
   refine WL.callF (by kernel_rfl) 8 _ _ rfl Tryz.in8 #[.iface 69 (ptr q)] (by simp [Act.eval]) ?_
   refine (told_err q W b wH F42.out hWn.out).mono ?_
   rintro e wI ⟨rfl, hb⟩
   refine ⟨_, rfl, ?_⟩
   have BC_ := Keep.mk hb
   clear hb
   have F46 := Keep.mk (F39.out.trans ((BC_.out).mono F39.out.size))
   have F47 := Keep.mk (F40.out.below BC_.out)
   have F48 := Keep.mk (F41.out.below BC_.out)
   have F49 := Keep.mk (F42.out.below BC_.out F42.out.lt)
   have F50 := Keep.mk (F43.out.below BC_.out F43.out.lt)
   have F51 := Keep.mk (F44.out.below BC_.out F44.out.lt)
   have F52 := Keep.mk (F45.out.below BC_.out F45.out.lt)
   clear F39 F40 F41 F42 F43 F44 F45
   clear BC_
   simp only [Act.put, pqA, pqB, pqC]
   refine VlS (.tuple #[.agg (erA W (b : Int)), .bool true]) ?_
   refine VlS (.agg (erA W (b : Int))) ?_
   refine VlS (.bool true) ?_
   refine WL.new (by kernel_rfl) 34 rfl _ Tryz.new34E ?_
   have HN_ := Keep.mk (Blk.new wI 34 (erA 0 0))
   have BN_ := Keep.mk (below_new wI (.cells (erA 0 0) 34))
   generalize wI.alloc (.cells (erA 0 0) 34) = wJ at *
   obtain ⟨g9, hg9⟩ : ∃ g, Keep (g = wI.heap.size) := ⟨_, ⟨rfl⟩⟩
   rw [← hg9.out] at HN_ ⊢
   have n_g9_g5 : Keep (g9 ≠ g5) := ⟨fun e => by have h1 := F50.out.lt; have h2 := hg9.out; omega⟩
   have n_g9_g7 : Keep (g9 ≠ g7) := ⟨fun e => by have h1 := F51.out.lt; have h2 := hg9.out; omega⟩
   have n_g9_g8 : Keep (g9 ≠ g8) := ⟨fun e => by have h1 := F52.out.lt; have h2 := hg9.out; omega⟩
   have l_g9 : Keep (wr.heap.size ≤ g9) := ⟨by rw [hg9.out]; exact F46.out.size⟩
   clear hg9
   have F53 := Keep.mk (F46.out.trans ((BN_.out).mono F46.out.size))
   have F54 := Keep.mk (F47.out.below BN_.out)
   have F55 := Keep.mk (F48.out.below BN_.out)
   have F56 := Keep.mk (F49.out.below BN_.out F49.out.lt)
   have F57 := Keep.mk (F50.out.below BN_.out F50.out.lt)
   have F58 := Keep.mk (F51.out.below BN_.out F51.out.lt)
   have F59 := Keep.mk (F52.out.below BN_.out F52.out.lt)
   clear F46 F47 F48 F49 F50 F51 F52
   clear BN_
   have F60 := Keep.mk HN_.out
   clear HN_
   simp only [Act.put, pqA, pqB, pqC]
   refine WL.storeR (by kernel_rfl) 34 (.tmp 9) (.tmp 34) rfl g9 (erA W (b : Int)) rfl rfl 34 (erA 0 0) F60.out (Tryz.size34B _ _) (erA_sizes _ _ _ _) (erA_one _ _) ?_
   have F61 := Keep.mk (below_setRow F53.out (b := g9) (l_g9.out) (erA W (b : Int)))
   have F62 : Keep (RowAt (wJ.setRow g9 (erA W (b : Int))) (.slice ra r.length rc) r) := ⟨JWb.out.below (F61.out)⟩
   have F63 : Keep (RwsAt (wJ.setRow g9 (erA W (b : Int))) (.slice (some ⟨q0, o0, none⟩) ls.length vc) ls) := ⟨JR.out.below (F61.out)⟩
   have F64 := Keep.mk (F56.out.setRow_ne (b' := g9) (blk_ne F56.out F60.out (by decide)) (erA W (b : Int)))
   have F65 := Keep.mk (F57.out.setRow_ne (b' := g9) (fun e => n_g9_g5.out e.symm) (erA W (b : Int)))
   have F66 := Keep.mk (F58.out.setRow_ne (b' := g9) (fun e => n_g9_g7.out e.symm) (erA W (b : Int)))
   have F67 := Keep.mk (F59.out.setRow_ne (b' := g9) (fun e => n_g9_g8.out e.symm) (erA W (b : Int)))
   have F68 := Keep.mk (F60.out.setRow (erA W (b : Int)))
   clear F53 F54 F55 F56 F57 F58 F59 F60
   generalize wJ.setRow g9 (erA W (b : Int)) = wK at *
   simp only [Act.put]
   refine VlS (.bool true) ?_
   refine WL.nil (hK25 _ _ ?_)
   refine wp_seq_k fun K26 hK26 => ?_
   refine wp_seq_k fun K27 hK27 => rgn ?_
   refine VlS (.bool true) ?_
   refine VlS (.bool false) ?_
   refine VlS (.bool false) ?_
   refine WL.row (by kernel_rfl) 34 (.tmp 9) rfl g9 rfl 34 (erA W (b : Int)) _ F68.out Tryz.underlying34 rfl (Tryz.size34B _ _) ?_
   simp only [Act.put, pqA, pqB, pqC]
   refine WL.row (by kernel_rfl) 34 (.tmp 8) rfl g8 rfl 34 (erA W (b : Int)) _ F67.out Tryz.underlying34 rfl (Tryz.size34B _ _) ?_
   simp only [Act.put, pqA, pqB, pqC]
   have hne := neqE W (b : Int)
   refine WL.val (by kernel_rfl) (.bool false) (by go_simp) ?_
   clear hne
   simp only [Act.put, pqA, pqB, pqC]
   refine VlS (.bool false) ?_
   refine VlS (.bool false) ?_
   refine WL.row (by kernel_rfl) 28 (.tmp 5) rfl g5 rfl 28 (ndA 0 0 noS noS) _ F65.out Tryz.underlying28 rfl (Tryz.size28B _ _ _ _) ?_
   simp only [Act.put, pqA, pqB, pqC]
   refine WL.row (by kernel_rfl) 28 (.tmp 7) rfl g7 rfl 28 (ndA 0 0 noS noS) _ F66.out Tryz.underlying28 rfl (Tryz.size28B _ _ _ _) ?_
   simp only [Act.put, pqA, pqB, pqC]
   refine WL.callF (by kernel_rfl) 9 _ _ rfl Tryz.in9 #[.agg (ndA 0 0 noS noS), .agg (ndA 0 0 noS noS)] (by simp [Act.eval]) ?_
   refine (rsame_node zeroN zeroN noS noS noS noS wK (ndAt_empty wK zeroN rfl rfl (by decide) (by decide)) (ndAt_empty wK zeroN rfl rfl (by decide) (by decide))).mono ?_
   rintro e wL ⟨rfl, hb⟩
   refine ⟨_, rfl, ?_⟩
   have BC_ := Keep.mk hb
   clear hb
   have F69 := Keep.mk (F61.out.trans ((BC_.out).mono F61.out.size))
   have F70 := Keep.mk (F62.out.below BC_.out)
   have F71 := Keep.mk (F63.out.below BC_.out)
   have F72 := Keep.mk (F64.out.below BC_.out F64.out.lt)
   have F73 := Keep.mk (F65.out.below BC_.out F65.out.lt)
   have F74 := Keep.mk (F66.out.below BC_.out F66.out.lt)
   have F75 := Keep.mk (F67.out.below BC_.out F67.out.lt)
   have F76 := Keep.mk (F68.out.below BC_.out F68.out.lt)
   clear F61 F62 F63 F64 F65 F66 F67 F68
   rw [sameN_refl]
   clear BC_
   simp only [Act.put, pqA, pqB, pqC]
   refine VlS (.bool false) ?_
   refine VlS (.bool false) ?_
   refine WL.nil (hK27 _ _ ?_)
   refine wp_cond_false rfl ?_
   refine wp_skip ?_
   refine hK26 _ _ ?_
   refine wp_seq_k fun K28 hK28 => rgn ?_
   refine VlS (.slice ra r.length rc) ?_
   refine WL.callF (by kernel_rfl) 10 _ _ rfl Tryz.in10 #[.slice ra r.length rc] (by simp [Act.eval]) ?_
   refine (ent_bad _ r wL F70.out HBr.out Hrl.out hg).mono ?_
   rintro e wM ⟨q2, rfl, h1, hb⟩
   refine ⟨_, rfl, ?_⟩
   have BC_ := Keep.mk hb
   clear hb
   have F77 := Keep.mk (F69.out.trans ((BC_.out).mono F69.out.size))
   have F78 := Keep.mk (F70.out.below BC_.out)
   have F79 := Keep.mk (F71.out.below BC_.out)
   have F80 := Keep.mk (F75.out.below BC_.out F75.out.lt)
   have F81 := Keep.mk (F76.out.below BC_.out F76.out.lt)
   clear F69 F70 F71 F75 F76
   rw [← hW.out, ← hb.out] at h1
   have HBd2 : Keep (BadAt wM q2 W b) := ⟨h1⟩
   clear h1
   unfold err
   rw [← hZE.out]
   clear BC_
   simp only [Act.put, pqA, pqB, pqC]
   refine VlS (.tuple #[.agg ZE, .iface 69 (ptr q2)]) ?_
   refine VlS (.agg ZE) ?_
   refine VlS (.iface 69 (ptr q2)) ?_
   refine WL.new (by kernel_rfl) 43 rfl ZE (fun w => by rw [hZE.out]; exact Tryz.new43 w) ?_
   have HN_ := Keep.mk (Blk.new wM 43 (ZE))
   have BN_ := Keep.mk (below_new wM (.cells (ZE) 43))
   generalize wM.alloc (.cells (ZE) 43) = wN at *
   obtain ⟨g11, hg11⟩ : ∃ g, Keep (g = wM.heap.size) := ⟨_, ⟨rfl⟩⟩
   rw [← hg11.out] at HN_ ⊢
   have n_g11_g8 : Keep (g11 ≠ g8) := ⟨fun e => by have h1 := F80.out.lt; have h2 := hg11.out; omega⟩
   have n_g11_g9 : Keep (g11 ≠ g9) := ⟨fun e => by have h1 := F81.out.lt; have h2 := hg11.out; omega⟩
   have l_g11 : Keep (wr.heap.size ≤ g11) := ⟨by rw [hg11.out]; exact F77.out.size⟩
   clear hg11
   have F82 := Keep.mk (F77.out.trans ((BN_.out).mono F77.out.size))
   have F83 := Keep.mk (F78.out.below BN_.out)
   have F84 := Keep.mk (F79.out.below BN_.out)
   have F85 := Keep.mk (F80.out.below BN_.out F80.out.lt)
   have F86 := Keep.mk (F81.out.below BN_.out F81.out.lt)
   have F87 := Keep.mk (HBd2.out.below BN_.out HBd2.out.lt)
   clear F77 F78 F79 F80 F81 HBd2
   clear BN_
   have F88 := Keep.mk HN_.out
   clear HN_
   simp only [Act.put, pqA, pqB, pqC]
   refine WL.storeR (by kernel_rfl) 43 (.tmp 11) (.tmp 52) rfl g11 (ZE) rfl rfl 43 (ZE) F88.out (by rw [hZE.out, zEn_size]; exact Tryz.size43) (rfl) (by rw [hZE.out]; exact zEn_one) ?_
   have F89 := Keep.mk (below_setRow F82.out (b := g11) (l_g11.out) (ZE))
   have F90 : Keep (RowAt (wN.setRow g11 (ZE)) (.slice ra r.length rc) r) := ⟨JWb.out.below (F89.out)⟩
   have F91 : Keep (RwsAt (wN.setRow g11 (ZE)) (.slice (some ⟨q0, o0, none⟩) ls.length vc) ls) := ⟨JR.out.below (F89.out)⟩
   have F92 := Keep.mk (F85.out.setRow_ne (b' := g11) (fun e => n_g11_g8.out e.symm) (ZE))
   have F93 := Keep.mk (F86.out.setRow_ne (b' := g11) (fun e => n_g11_g9.out e.symm) (ZE))
   have F94 := Keep.mk (F87.out.setRow_ne (b' := g11) (blk_ne F87.out F88.out (by decide)) (ZE))
   have F95 := Keep.mk (F88.out.setRow (ZE))
   clear F82 F83 F84 F85 F86 F87 F88
   generalize wN.setRow g11 (ZE) = wO at *
   simp only [Act.put]
   refine VlS (.iface 69 (ptr q2)) ?_
   refine WL.nil (hK28 _ _ ?_)
   refine wp_seq_k fun K29 hK29 => rgn ?_
   refine VlS (.slice ra r.length rc) ?_
   refine WL.callF (by kernel_rfl) 11 _ _ rfl Tryz.in11 #[.slice ra r.length rc] (by simp [Act.eval]) ?_
   refine (rent_bad _ r wO F90.out HBr.out Hrl.out hg).mono ?_
   rintro e wP ⟨rfl, hb⟩
   refine ⟨_, rfl, ?_⟩
   have BC_ := Keep.mk hb
   clear hb
   have F96 := Keep.mk (F89.out.trans ((BC_.out).mono F89.out.size))
   have F97 := Keep.mk (F90.out.below BC_.out)
   have F98 := Keep.mk (F91.out.below BC_.out)
   have F99 := Keep.mk (F92.out.below BC_.out F92.out.lt)
   have F100 := Keep.mk (F93.out.below BC_.out F93.out.lt)
   have F101 := Keep.mk (F94.out.below BC_.out F94.out.lt)
   have F102 := Keep.mk (F95.out.below BC_.out F95.out.lt)
   clear F89 F90 F91 F92 F93 F94 F95
   rw [← hW.out, ← hb'.out, ← hZE.out]
   clear BC_
   simp only [Act.put, pqA, pqB, pqC]
   refine VlS (.tuple #[.agg ZE, .agg (erA W (b : Int))]) ?_
   refine VlS (.agg ZE) ?_
   refine VlS (.agg (erA W (b : Int))) ?_
   refine WL.new (by kernel_rfl) 43 rfl ZE (fun w => by rw [hZE.out]; exact Tryz.new43 w) ?_
   have HN_ := Keep.mk (Blk.new wP 43 (ZE))
   have BN_ := Keep.mk (below_new wP (.cells (ZE) 43))
   generalize wP.alloc (.cells (ZE) 43) = wQ at *
   obtain ⟨g12, hg12⟩ : ∃ g, Keep (g = wP.heap.size) := ⟨_, ⟨rfl⟩⟩
   rw [← hg12.out] at HN_ ⊢
   have n_g12_g8 : Keep (g12 ≠ g8) := ⟨fun e => by have h1 := F99.out.lt; have h2 := hg12.out; omega⟩
   have n_g12_g9 : Keep (g12 ≠ g9) := ⟨fun e => by have h1 := F100.out.lt; have h2 := hg12.out; omega⟩
   have n_g12_g11 : Keep (g12 ≠ g11) := ⟨fun e => by have h1 := F102.out.lt; have h2 := hg12.out; omega⟩
   have l_g12 : Keep (wr.heap.size ≤ g12) := ⟨by rw [hg12.out]; exact F96.out.size⟩
   clear hg12
   have F103 := Keep.mk (F96.out.trans ((BN_.out).mono F96.out.size))
   have F104 := Keep.mk (F97.out.below BN_.out)
   have F105 := Keep.mk (F98.out.below BN_.out)
   have F106 := Keep.mk (F99.out.below BN_.out F99.out.lt)
   have F107 := Keep.mk (F100.out.below BN_.out F100.out.lt)
   have F108 := Keep.mk (F101.out.below BN_.out F101.out.lt)
   have F109 := Keep.mk (F102.out.below BN_.out F102.out.lt)
   clear F96 F97 F98 F99 F100 F101 F102
   clear BN_
   have F110 := Keep.mk HN_.out
   clear HN_
   simp only [Act.put, pqA, pqB, pqC]
   refine WL.storeR (by kernel_rfl) 43 (.tmp 12) (.tmp 57) rfl g12 (ZE) rfl rfl 43 (ZE) F110.out (by rw [hZE.out, zEn_size]; exact Tryz.size43) (rfl) (by rw [hZE.out]; exact zEn_one) ?_
   have F111 := Keep.mk (below_setRow F103.out (b := g12) (l_g12.out) (ZE))
   have F112 : Keep (RowAt (wQ.setRow g12 (ZE)) (.slice ra r.length rc) r) := ⟨JWb.out.below (F111.out)⟩
   have F113 : Keep (RwsAt (wQ.setRow g12 (ZE)) (.slice (some ⟨q0, o0, none⟩) ls.length vc) ls) := ⟨JR.out.below (F111.out)⟩
   have F114 := Keep.mk (F106.out.setRow_ne (b' := g12) (fun e => n_g12_g8.out e.symm) (ZE))
   have F115 := Keep.mk (F107.out.setRow_ne (b' := g12) (fun e => n_g12_g9.out e.symm) (ZE))
   have F116 := Keep.mk (F108.out.setRow_ne (b' := g12) (blk_ne F108.out F110.out (by decide)) (ZE))
   have F117 := Keep.mk (F109.out.setRow_ne (b' := g12) (fun e => n_g12_g11.out e.symm) (ZE))
   have F118 := Keep.mk (F110.out.setRow (ZE))
   clear F103 F104 F105 F106 F107 F108 F109 F110
   generalize wQ.setRow g12 (ZE) = wR at *
   simp only [Act.put]
   refine WL.storeR (by kernel_rfl) 34 (.tmp 8) (.tmp 58) rfl g8 (erA W (b : Int)) rfl rfl 34 (erA W (b : Int)) F114.out (Tryz.size34B _ _) (erA_sizes _ _ _ _) (erA_one _ _) ?_
   have F119 := Keep.mk (below_setRow F111.out (b := g8) (l_g8.out) (erA W (b : Int)))
   have F120 : Keep (RowAt (wR.setRow g8 (erA W (b : Int))) (.slice ra r.length rc) r) := ⟨JWb.out.below (F119.out)⟩
   have F121 : Keep (RwsAt (wR.setRow g8 (erA W (b : Int))) (.slice (some ⟨q0, o0, none⟩) ls.length vc) ls) := ⟨JR.out.below (F119.out)⟩
   have F122 := Keep.mk (F114.out.setRow (erA W (b : Int)))
   have F123 := Keep.mk (F115.out.setRow_ne (b' := g8) n_g9_g8.out (erA W (b : Int)))
   have F124 := Keep.mk (F116.out.setRow_ne (b' := g8) (blk_ne F116.out F114.out (by decide)) (erA W (b : Int)))
   have F125 := Keep.mk (F117.out.setRow_ne (b' := g8) n_g11_g8.out (erA W (b : Int)))
   have F126 := Keep.mk (F118.out.setRow_ne (b' := g8) n_g12_g8.out (erA W (b : Int)))
   clear F111 F112 F113 F114 F115 F116 F117 F118
   generalize wR.setRow g8 (erA W (b : Int)) = wS at *
   simp only [Act.put]
   refine WL.nil (hK29 _ _ ?_)
   refine wp_seq_k fun K30 hK30 => rgn ?_
   refine VlS (.iface 69 (ptr q2)) ?_
   refine WL.callF (by kernel_rfl) 8 _ _ rfl Tryz.in8 #[.iface 69 (ptr q2)] (by simp [Act.eval]) ?_
   refine (told_err q2 W b wS F124.out hWn.out).mono ?_
   rintro e wT ⟨rfl, hb⟩
   refine ⟨_, rfl, ?_⟩
   have BC_ := Keep.mk hb
   clear hb
   have F127 := Keep.mk (F119.out.trans ((BC_.out).mono F119.out.size))
   have F128 := Keep.mk (F120.out.below BC_.out)
   have F129 := Keep.mk (F121.out.below BC_.out)
   have F130 := Keep.mk (F122.out.below BC_.out F122.out.lt)
   have F131 := Keep.mk (F123.out.below BC_.out F123.out.lt)
   have F132 := Keep.mk (F124.out.below BC_.out F124.out.lt)
   have F133 := Keep.mk (F125.out.below BC_.out F125.out.lt)
   have F134 := Keep.mk (F126.out.below BC_.out F126.out.lt)
   clear F119 F120 F121 F122 F123 F124 F125 F126
   clear BC_
   simp only [Act.put, pqA, pqB, pqC]
   refine VlS (.tuple #[.agg (erA W (b : Int)), .bool true]) ?_
   refine VlS (.agg (erA W (b : Int))) ?_
   refine VlS (.bool true) ?_
   refine WL.storeR (by kernel_rfl) 34 (.tmp 9) (.tmp 62) rfl g9 (erA W (b : Int)) rfl rfl 34 (erA W (b : Int)) F131.out (Tryz.size34B _ _) (erA_sizes _ _ _ _) (erA_one _ _) ?_
   have F135 := Keep.mk (below_setRow F127.out (b := g9) (l_g9.out) (erA W (b : Int)))
   have F136 : Keep (RowAt (wT.setRow g9 (erA W (b : Int))) (.slice ra r.length rc) r) := ⟨JWb.out.below (F135.out)⟩
   have F137 : Keep (RwsAt (wT.setRow g9 (erA W (b : Int))) (.slice (some ⟨q0, o0, none⟩) ls.length vc) ls) := ⟨JR.out.below (F135.out)⟩
   have F138 := Keep.mk (F130.out.setRow_ne (b' := g9) (fun e => n_g9_g8.out e.symm) (erA W (b : Int)))
   have F139 := Keep.mk (F131.out.setRow (erA W (b : Int)))
   have F140 := Keep.mk (F132.out.setRow_ne (b' := g9) (blk_ne F132.out F131.out (by decide)) (erA W (b : Int)))
   have F141 := Keep.mk (F133.out.setRow_ne (b' := g9) n_g11_g9.out (erA W (b : Int)))
   have F142 := Keep.mk (F134.out.setRow_ne (b' := g9) n_g12_g9.out (erA W (b : Int)))
   clear F127 F128 F129 F130 F131 F132 F133 F134
   generalize wT.setRow g9 (erA W (b : Int)) = wU at *
   simp only [Act.put]
   refine VlS (.bool true) ?_
   refine WL.nil (hK30 _ _ ?_)
   refine wp_seq_k fun K31 hK31 => rgn ?_
   refine VlS (.bool true) ?_
   refine VlS (.bool false) ?_
   refine VlS (.bool false) ?_
   refine WL.row (by kernel_rfl) 34 (.tmp 9) rfl g9 rfl 34 (erA W (b : Int)) _ F139.out Tryz.underlying34 rfl (Tryz.size34B _ _) ?_
   simp only [Act.put, pqA, pqB, pqC]
   refine WL.row (by kernel_rfl) 34 (.tmp 8) rfl g8 rfl 34 (erA W (b : Int)) _ F138.out Tryz.underlying34 rfl (Tryz.size34B _ _) ?_
   simp only [Act.put, pqA, pqB, pqC]
   have hne := neqE W (b : Int)
   refine WL.val (by kernel_rfl) (.bool false) (by go_simp) ?_
   clear hne
   simp only [Act.put, pqA, pqB, pqC]
   refine VlS (.bool false) ?_
   refine VlS (.bool false) ?_
   refine WL.row (by kernel_rfl) 43 (.tmp 11) rfl g11 rfl 43 (ZE) _ F141.out Tryz.underlying43 rfl (by rw [hZE.out, zEn_size]; exact Tryz.size43) ?_
   simp only [Act.put, pqA, pqB, pqC]
   refine WL.row (by kernel_rfl) 43 (.tmp 12) rfl g12 rfl 43 (ZE) _ F142.out Tryz.underlying43 rfl (by rw [hZE.out, zEn_size]; exact Tryz.size43) ?_
   simp only [Act.put, pqA, pqB, pqC]
   have HC74 := sameEntry_zero wU
   rw [← hZE.out] at HC74
   refine WL.callF (by kernel_rfl) 12 _ _ rfl Tryz.in12 #[.agg ZE, .agg ZE] (by simp [Act.eval]) ?_
   refine (HC74).mono ?_
   rintro e wV ⟨rfl, hb⟩
   refine ⟨_, rfl, ?_⟩
   have BC_ := Keep.mk hb
   clear hb
   have F143 := Keep.mk (F135.out.trans ((BC_.out).mono F135.out.size))
   have F144 := Keep.mk (F136.out.below BC_.out)
   have F145 := Keep.mk (F137.out.below BC_.out)
   have F146 := Keep.mk (F138.out.below BC_.out F138.out.lt)
   have F147 := Keep.mk (F139.out.below BC_.out F139.out.lt)
   have F148 := Keep.mk (F140.out.below BC_.out F140.out.lt)
   have F149 := Keep.mk (F141.out.below BC_.out F141.out.lt)
   have F150 := Keep.mk (F142.out.below BC_.out F142.out.lt)
   clear F135 F136 F137 F138 F139 F140 F141 F142
   clear BC_
   simp only [Act.put, pqA, pqB, pqC]
   refine VlS (.bool false) ?_
   refine VlS (.bool false) ?_
   refine WL.nil (hK31 _ _ ?_)
   refine wp_cond_false rfl ?_
   refine wp_skip ?_
   refine hK21 _ _ ?_
   refine rgn ?_
   refine VlS (.int .i64 ((t : Int) + 1)) ?_
   refine VlS (.int .i64 ((t : Int) + 1)) ?_
   refine WL.nil ?_
   refine ⟨⟨t + 1, fun i => [.slice (some ⟨q0, o0, none⟩) ls.length vc, undef, f 2, undef, .slice ra r.length rc, .pointer (some ⟨g5, 0, none⟩), .iface 69 (ptr q2), .pointer (some ⟨g7, 0, none⟩), .pointer (some ⟨g8, 0, none⟩), .pointer (some ⟨g9, 0, none⟩), .bool true, .pointer (some ⟨g11, 0, none⟩), .pointer (some ⟨g12, 0, none⟩), .bool true, .bool false, .slice (some ⟨q0, o0, none⟩) ls.length vc, .int .i64 (ls.length : Int), .int .i64 ((t : Int) + 1), .bool true, .pointer (some ⟨q0, o0 + t, none⟩), .slice ra r.length rc, .tuple #[.agg (ndA 0 0 noS noS), .iface 69 (ptr q)], .slice ra r.length rc, .tuple #[.agg (ndA 0 0 noS noS), .iface 69 (ptr q)], .agg (ndA 0 0 noS noS), .iface 69 (ptr q), .tuple #[.agg (ndA 0 0 noS noS), .agg (erA W (b : Int))], .slice ra r.length rc, .tuple #[.agg (ndA 0 0 noS noS), .agg (erA W (b : Int))], .agg (ndA 0 0 noS noS), .agg (erA W (b : Int)), .tuple #[.agg (erA W (b : Int)), .bool true], .iface 69 (ptr q), .tuple #[.agg (erA W (b : Int)), .bool true], .agg (erA W (b : Int)), .bool true, .bool true, .bool false, .bool false, .agg (erA W (b : Int)), .agg (erA W (b : Int)), .bool false, .bool false, .bool false, .agg (ndA 0 0 noS noS), .agg (ndA 0 0 noS noS), .bool true, .bool false, .bool false, .tuple #[.agg ZE, .iface 69 (ptr q2)], .slice ra r.length rc, .tuple #[.agg ZE, .iface 69 (ptr q2)], .agg ZE, .iface 69 (ptr q2), .tuple #[.agg ZE, .agg (erA W (b : Int))], .slice ra r.length rc, .tuple #[.agg ZE, .agg (erA W (b : Int))], .agg ZE, .agg (erA W (b : Int)), .tuple #[.agg (erA W (b : Int)), .bool true], .iface 69 (ptr q2), .tuple #[.agg (erA W (b : Int)), .bool true], .agg (erA W (b : Int)), .bool true, .bool true, .bool false, .bool false, .agg (erA W (b : Int)), .agg (erA W (b : Int)), .bool false, .bool false, .bool false, .agg (ZE), .agg (ZE), .bool true, .bool false, .bool false, .int .i64 ((t : Int) + 1)].getD i undef, rfl, by omega, F145.out, JT.out.trans (F143.out.mono JT.out.size)⟩, ?_⟩
   simp only [intOf]; show ls.length - ((t : Int) + 1).toNat < ls.length - ((t : Int)).toNat; omega
 ·have hlt' : ¬ (t : Int) < (ls.length : Int) := by omega
  refine wp_seq_k fun K32 hK32 => rgn ?_
  refine VlS (.bool false) ?_
  refine WL.nil (hK32 _ _ ?_)
  refine wp_seq_k fun K33 hK33 => ?_
  refine wp_cond_false rfl ?_
  refine wp_exit ?_
  refine hK4 _ _ ?_
  refine wp_seq_k fun K34 hK34 => rgn ?_
  refine VlS (.bool true) ?_
  refine WL.nil (hK34 _ _ ?_)
  refine wp_ret ?_
  go_ret
  exact ⟨rfl, JT.out⟩
end Go.Proofs.YtdeiicldfgkidaaGreat
