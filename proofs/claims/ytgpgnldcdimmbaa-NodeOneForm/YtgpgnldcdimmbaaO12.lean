import Derived.Test.YtgpgnldcdimmbaaO11
import Derived.Test.YtgpgnldcdimmbaaO05
import Derived.Test.YtgpgnldcdimmbaaO08
import Derived.Deep.RegionHeld3
import Derived.ProofKit
import Derived.OpenShut
import Derived.ShutString
import Derived.ChangeOld
import Derived.Below
import Derived.SizedLaws
import Derived.Deep.Slices
import Derived.Deep.Strs
namespace Go.Proofs.Ytgpgnldcdimmbaa
open Go.RowKit
set_option linter.unusedSimpArgs false
set_option linter.unusedVariables false

theorem eqlE (a b : Int) (w : World) : (binOp .eql 49 (.agg (erA a b)) (.agg (erA a b))).run Try.prog w = .ok (.bool true) w := by
  unfold erA
  go_simp
theorem badR_no {l : List Int} (h : 1048576 < l.length ∨ (¬ 1048576 < l.length ∧ (decR l).1 ≠ 0)) : (badR l).1 ≠ 0 := by
  unfold badR
  rcases h with h | ⟨h1, h2⟩
  · rw [if_pos h]; exact (by decide : (4 : Int) ≠ 0)
  · rw [if_neg h1]; exact h2
theorem Try.in6 (w : World) (vs : Array Value) : (callFunc 6 vs).run Try.prog w = .ok (.enter 6 vs) w := by kernel_rfl
set_option maxRecDepth 8000 in
set_option maxHeartbeats 4000000 in
theorem oneForm_any (v : Value) (l : List Int) (w : World) (hr : RowAt w v l) (hB : Byts l) (hl : l.length ≤ 140737488355328) : Calls Try.prog 6 #[v] w fun e w' => e = .returned (.bool true) ∧ Below w.heap.size w w' := by
  obtain ⟨va, vc, rfl⟩ := row_form hr
  have HR := Keep.mk hr
  have HBy := Keep.mk hB
  clear hr hB hl
  go_enter Try.func6, Try.ntmps6
  refine wp_seq_k fun K1 hK1 => ?_
  refine wp_region_list (WL.out ?_)
  refine WL.val (by kernel_rfl) (.bool false) (by go_simp) ?_
  simp only [Act.put, List.setIfInBounds_toArray, List.set_cons_zero, List.set_cons_succ]
  refine WL.nil ?_
  refine hK1 _ _ ?_
  refine wp_seq_k fun K2 hK2 => ?_
  refine wp_seq_k fun K3 hK3 => ?_
  refine wp_region_list (WL.out ?_)
  refine WL.callF (by kernel_rfl) 9 _ _ rfl Try.in9 #[] (by simp) ?_
  refine (awake_any w).mono ?_
  rintro e w1 ⟨rfl, hb1⟩
  refine ⟨_, rfl, ?_⟩
  have B1 := Keep.mk hb1
  have HR1 := Keep.mk (HR.out.below hb1)
  clear hb1
  simp only [Act.put, List.setIfInBounds_toArray, List.set_cons_zero, List.set_cons_succ]
  refine WL.val (by kernel_rfl) (.bool false) (by go_simp) ?_
  simp only [Act.put, List.setIfInBounds_toArray, List.set_cons_zero, List.set_cons_succ]
  refine WL.nil ?_
  refine hK3 _ _ ?_
  refine wp_cond_false rfl ?_
  refine wp_skip ?_
  refine hK2 _ _ ?_
  refine wp_seq_k fun K4 hK4 => ?_
  refine wp_region_list (WL.out ?_)
  refine WL.val (by kernel_rfl) (.slice va l.length vc) (by go_simp) ?_
  simp only [Act.put, List.setIfInBounds_toArray, List.set_cons_zero, List.set_cons_succ]
  refine WL.callF (by kernel_rfl) 16 _ _ rfl Try.in16 #[.slice va l.length vc] (by simp [Act.eval]) ?_
  refine (decode_any _ l w1 HR1.out HBy.out).mono ?_
  rintro e w2 (⟨h1, h2, vp, vo, rfl, h3, h4, h5, h6, h7, h8, hb2⟩ | ⟨h1, q, hq, rfl, hbad, hb2⟩)
  · refine ⟨_, rfl, ?_⟩
    have H1 := Keep.mk h1
    have H2 := Keep.mk h2
    have HO2 := Keep.mk h3
    have HQ2 := Keep.mk h4
    have Hok := Keep.mk h7
    have B2 : Keep (Below w.heap.size w w2) := ⟨B1.out.trans (hb2.mono B1.out.size)⟩
    have HR2 := Keep.mk (HR1.out.below hb2)
    clear h1 h2 h3 h4 h5 h6 h7 h8 hb2
    obtain ⟨ea, ec, rfl⟩ := HO2.out.sl
    obtain ⟨fa, fc, rfl⟩ := HQ2.out.sl
    have Hbk := Keep.mk (decR_back HBy.out H2.out)
    obtain ⟨N, hN⟩ : ∃ N, N = (decR l).2.2 := ⟨_, rfl⟩
    rw [← hN] at HO2 HQ2 Hok Hbk ⊢
    have HNN := Keep.mk hN
    clear hN
    simp only [Act.put, List.setIfInBounds_toArray, List.set_cons_zero, List.set_cons_succ]
    refine WL.val (by kernel_rfl) (.tuple #[.agg (ndA N.au N.ck (.slice ea N.ps.length ec) (.slice fa N.ops.length fc)), .nilIface]) (by go_simp) ?_
    simp only [Act.put, List.setIfInBounds_toArray, List.set_cons_zero, List.set_cons_succ]
    refine WL.val (by kernel_rfl) (.agg (ndA N.au N.ck (.slice ea N.ps.length ec) (.slice fa N.ops.length fc))) (by go_simp) ?_
    simp only [Act.put, List.setIfInBounds_toArray, List.set_cons_zero, List.set_cons_succ]
    refine WL.val (by kernel_rfl) (.nilIface) (by go_simp) ?_
    simp only [Act.put, List.setIfInBounds_toArray, List.set_cons_zero, List.set_cons_succ]
    refine WL.new (by kernel_rfl) 27 rfl _ Try.new27N ?_
    simp only [Act.put, List.setIfInBounds_toArray, List.set_cons_zero, List.set_cons_succ]
    refine WL.storeR (by kernel_rfl) 27 (.tmp 3) (.tmp 18) rfl w2.heap.size (ndA N.au N.ck (.slice ea N.ps.length ec) (.slice fa N.ops.length fc)) rfl rfl 27 (ndA 0 0 noS noS) (Blk.new w2 27 _) (Try.size27B _ _ _ _) rfl (nd_one _ _ _ _ _ _ _ _) ?_
    have HM3 := Keep.mk ((Blk.new w2 27 (ndA 0 0 noS noS)).setRow (ndA N.au N.ck (.slice ea N.ps.length ec) (.slice fa N.ops.length fc)))
    have BS3 : Keep (Below w2.heap.size w2 ((w2.alloc (.cells (ndA 0 0 noS noS) 27)).setRow w2.heap.size (ndA N.au N.ck (.slice ea N.ps.length ec) (.slice fa N.ops.length fc)))) := ⟨below_setRow (below_new w2 _) (Nat.le_refl _) _⟩
    generalize (w2.alloc (.cells (ndA 0 0 noS noS) 27)).setRow w2.heap.size (ndA N.au N.ck (.slice ea N.ps.length ec) (.slice fa N.ops.length fc)) = w3 at *
    have B3 : Keep (Below w.heap.size w w3) := ⟨B2.out.trans (BS3.out.mono B2.out.size)⟩
    have HR3 := Keep.mk (HR2.out.below BS3.out)
    have HO3 := Keep.mk (HO2.out.below BS3.out)
    have HQ3 := Keep.mk (HQ2.out.below BS3.out)
    generalize w2.heap.size = gm at *
    simp only [Act.put]
    refine WL.val (by kernel_rfl) (.nilIface) (by go_simp) ?_
    simp only [Act.put, List.setIfInBounds_toArray, List.set_cons_zero, List.set_cons_succ]
    refine WL.nil ?_
    refine hK4 _ _ ?_
    refine wp_seq_k fun K5 hK5 => ?_
    obtain ⟨hc, hhc⟩ : ∃ hc, Sh.shaP l = hc := ⟨_, rfl⟩
    have Hhc := Keep.mk hhc
    clear hhc
    refine wp_region_list (WL.out ?_)
    refine WL.val (by kernel_rfl) (.slice va l.length vc) (by go_simp) ?_
    simp only [Act.put, List.setIfInBounds_toArray, List.set_cons_zero, List.set_cons_succ]
    refine WL.callF (by kernel_rfl) 17 _ _ rfl Try.in17 #[.slice va l.length vc] (by simp [Act.eval]) ?_
    refine (entry_any _ l w3 HR3.out HBy.out).mono ?_
    rintro e w4 h4
    obtain ⟨vp4, vo4, rfl, hp4, ho4, hb4⟩ : ∃ vp vo, e = .returned (.tuple #[.agg (enA hc (ndA N.au N.ck vp vo)), .nilIface]) ∧ OwnH w4 vp N.ps ∧ OwnO w4 vo N.ops ∧ Below w3.heap.size w3 w4 := by
      unfold EntP at h4
      rw [← HNN.out, Hhc.out] at h4
      rcases h4 with ⟨_, _, vp, vo, h1, h2, h3, _, _, h4⟩ | ⟨h1, _⟩
      · exact ⟨vp, vo, h1, h2, h3, h4⟩
      · rcases h1 with h1 | ⟨_, h1⟩
        · have := H1.out; omega
        · exact absurd H2.out h1
    refine ⟨_, rfl, ?_⟩
    clear h4
    obtain ⟨ia, ic, rfl⟩ := hp4.sl
    obtain ⟨ja, jc, rfl⟩ := ho4.sl
    have B4 : Keep (Below w.heap.size w w4) := ⟨B3.out.trans (hb4.mono B3.out.size)⟩
    have HR4 := Keep.mk (HR3.out.below hb4)
    have HM4 := Keep.mk (HM3.out.below hb4 HM3.out.lt)
    have HO4 := Keep.mk (HO3.out.below hb4)
    have HQ4 := Keep.mk (HQ3.out.below hb4)
    obtain ⟨EN, hEN⟩ : ∃ EN, EN = enA hc (ndA N.au N.ck (.slice ia N.ps.length ic) (.slice ja N.ops.length jc)) := ⟨_, rfl⟩
    have HEs : Keep (EN.size = 36) := ⟨by rw [hEN]; exact enA_size _ _ _ _ _⟩
    have HEo : Keep (EN.all (·.oneCell') = true) := ⟨by rw [hEN]; exact enA_one _ _ _ _ _ _ _ _ _⟩
    have HEr : Keep (∀ (wx : World) (gx : Nat), Blk wx gx 42 EN → wx.rangeAt gx 0 (bytesA 32 hc).toList) := ⟨fun wx gx h => by rw [hEN] at h; exact (en_range h).1⟩
    rw [← hEN]
    clear hp4 ho4 hb4 hEN
    simp only [Act.put, List.setIfInBounds_toArray, List.set_cons_zero, List.set_cons_succ]
    refine WL.val (by kernel_rfl) (.tuple #[.agg EN, .nilIface]) (by go_simp) ?_
    simp only [Act.put, List.setIfInBounds_toArray, List.set_cons_zero, List.set_cons_succ]
    refine WL.val (by kernel_rfl) (.agg EN) (by go_simp) ?_
    simp only [Act.put, List.setIfInBounds_toArray, List.set_cons_zero, List.set_cons_succ]
    refine WL.val (by kernel_rfl) (.nilIface) (by go_simp) ?_
    simp only [Act.put, List.setIfInBounds_toArray, List.set_cons_zero, List.set_cons_succ]
    refine WL.new (by kernel_rfl) 42 rfl _ Try.new42 ?_
    simp only [Act.put, List.setIfInBounds_toArray, List.set_cons_zero, List.set_cons_succ]
    refine WL.storeR (by kernel_rfl) 42 (.tmp 5) (.tmp 23) rfl w4.heap.size (EN) rfl rfl 42 (zEn) (Blk.new w4 42 _) (by rw [HEs.out]; exact Try.size42) (zEn_size.trans HEs.out.symm) (HEo.out) ?_
    have HE5 := Keep.mk ((Blk.new w4 42 (zEn)).setRow (EN))
    have BS5 : Keep (Below w4.heap.size w4 ((w4.alloc (.cells (zEn) 42)).setRow w4.heap.size (EN))) := ⟨below_setRow (below_new w4 _) (Nat.le_refl _) _⟩
    generalize (w4.alloc (.cells (zEn) 42)).setRow w4.heap.size (EN) = w5 at *
    have B5 : Keep (Below w.heap.size w w5) := ⟨B4.out.trans (BS5.out.mono B4.out.size)⟩
    have HR5 := Keep.mk (HR4.out.below BS5.out)
    have HM5 := Keep.mk (HM4.out.below BS5.out HM4.out.lt)
    have HMN : Keep (NdAt w5 N (.slice ea N.ps.length ec) (.slice fa N.ops.length fc)) := ⟨ndAt_own (HO4.out.below BS5.out) (HQ4.out.below BS5.out) Hok.out (by have := (headE_ok (chkN_ok Hbk.out.1).1).1; omega) (by have := (headE_ok (chkN_ok Hbk.out.1).1).2; omega) (by have := (headE_ok (chkN_ok Hbk.out.1).1).2.2.2.2.1; omega) (by have := (chk_ok (chkN_ok Hbk.out.1).2).1; omega)⟩
    generalize w4.heap.size = ge at *
    simp only [Act.put]
    refine WL.val (by kernel_rfl) (.nilIface) (by go_simp) ?_
    simp only [Act.put, List.setIfInBounds_toArray, List.set_cons_zero, List.set_cons_succ]
    refine WL.nil ?_
    refine hK5 _ _ ?_
    refine wp_seq_k fun K6 hK6 => ?_
    refine wp_seq_k fun K7 hK7 => ?_
    refine wp_region_list (WL.out ?_)
    refine WL.val (by kernel_rfl) (.nilIface) (by go_simp) ?_
    simp only [Act.put, List.setIfInBounds_toArray, List.set_cons_zero, List.set_cons_succ]
    refine WL.val (by kernel_rfl) (.bool false) (by go_simp) ?_
    simp only [Act.put, List.setIfInBounds_toArray, List.set_cons_zero, List.set_cons_succ]
    refine WL.val (by kernel_rfl) (.bool false) (by go_simp) ?_
    simp only [Act.put, List.setIfInBounds_toArray, List.set_cons_zero, List.set_cons_succ]
    refine WL.val (by kernel_rfl) (.nilIface) (by go_simp) ?_
    simp only [Act.put, List.setIfInBounds_toArray, List.set_cons_zero, List.set_cons_succ]
    refine WL.val (by kernel_rfl) (.bool false) (by go_simp) ?_
    simp only [Act.put, List.setIfInBounds_toArray, List.set_cons_zero, List.set_cons_succ]
    refine WL.val (by kernel_rfl) (.bool false) (by go_simp) ?_
    simp only [Act.put, List.setIfInBounds_toArray, List.set_cons_zero, List.set_cons_succ]
    refine WL.nil ?_
    refine hK7 _ _ ?_
    refine wp_cond_false rfl ?_
    refine wp_skip ?_
    refine hK6 _ _ ?_
    refine wp_seq_k fun K8 hK8 => ?_
    have HD : Keep (NdAt w5 N (.slice ea N.ps.length ec) (.slice fa N.ops.length fc)) := HMN
    refine wp_region_list (WL.out ?_)
    refine WL.row (by kernel_rfl) 27 (.tmp 3) rfl gm rfl 27 (ndA N.au N.ck (.slice ea N.ps.length ec) (.slice fa N.ops.length fc)) _ HM5.out Try.underlying27 rfl (Try.size27B _ _ _ _) ?_
    simp only [Act.put, List.setIfInBounds_toArray, List.set_cons_zero, List.set_cons_succ]
    refine WL.callF (by kernel_rfl) 10 _ _ rfl Try.in10 #[.agg (ndA N.au N.ck (.slice ea N.ps.length ec) (.slice fa N.ops.length fc))] (by simp [Act.eval]) ?_
    refine (encode_any N _ _ w5 HMN.out).mono ?_
    rintro e w6 ⟨hb6, h6⟩
    obtain ⟨gb, rfl, hbl⟩ : ∃ g, e = .returned (.tuple #[.slice (some ⟨g, 0, none⟩) l.length l.length, .int .i64 0]) ∧ Blk w6 g 5 (bv l).toArray := by
      rw [Hbk.out.2.1] at h6
      rcases h6 with ⟨h, _⟩ | ⟨_, h, _⟩ | ⟨_, _, g, _, h7, h8⟩
      · exact absurd Hbk.out.1 h
      · have := H1.out; omega
      · exact ⟨g, h7, h8⟩
    refine ⟨_, rfl, ?_⟩
    clear h6
    have HC6 := Keep.mk (row_of hbl rfl)
    have BS6 := Keep.mk hb6
    have B6 : Keep (Below w.heap.size w w6) := ⟨B5.out.trans (hb6.mono B5.out.size)⟩
    have HR6 := Keep.mk (HR5.out.below hb6)
    have HM6 := Keep.mk (HM5.out.below hb6 HM5.out.lt)
    have HE6 := Keep.mk (HE5.out.below hb6 HE5.out.lt)
    have HN6 := Keep.mk (HMN.out.below hb6)
    have Hsz : Keep (sizeN N = (l.length : Int)) := ⟨by unfold sizeN; rw [if_pos Hbk.out.1, Hbk.out.2.1]⟩
    clear hbl hb6
    simp only [Act.put, List.setIfInBounds_toArray, List.set_cons_zero, List.set_cons_succ]
    refine WL.val (by kernel_rfl) (.tuple #[.slice (some ⟨gb, 0, none⟩) l.length l.length, .int .i64 0]) (by go_simp) ?_
    simp only [Act.put, List.setIfInBounds_toArray, List.set_cons_zero, List.set_cons_succ]
    refine WL.val (by kernel_rfl) (.slice (some ⟨gb, 0, none⟩) l.length l.length) (by go_simp) ?_
    simp only [Act.put, List.setIfInBounds_toArray, List.set_cons_zero, List.set_cons_succ]
    refine WL.val (by kernel_rfl) (.int .i64 0) (by go_simp) ?_
    simp only [Act.put, List.setIfInBounds_toArray, List.set_cons_zero, List.set_cons_succ]
    refine WL.val (by kernel_rfl) (.slice (some ⟨gb, 0, none⟩) l.length l.length) (by go_simp) ?_
    simp only [Act.put, List.setIfInBounds_toArray, List.set_cons_zero, List.set_cons_succ]
    refine WL.val (by kernel_rfl) (.int .i64 0) (by go_simp) ?_
    simp only [Act.put, List.setIfInBounds_toArray, List.set_cons_zero, List.set_cons_succ]
    refine WL.nil ?_
    refine hK8 _ _ ?_
    refine wp_seq_k fun K9 hK9 => ?_
    have hD0 : Below w6.heap.size w6 w6.drew := (Below.refl _ _).drew
    have HS0 : Keep (∀ wx, Below w6.heap.size w6 wx → wx.rangeAt gm 0 (ndA N.au N.ck (.slice ea N.ps.length ec) (.slice fa N.ops.length fc)).toList ∧ wx.rangeAt ge 0 (bytesA 32 hc).toList ∧ RowAt wx (.slice (some ⟨gb, 0, none⟩) l.length l.length) l ∧ RowAt wx (.slice va l.length vc) l) := ⟨fun wx hb => ⟨blk_range (HM6.out.below hb HM6.out.lt), HEr.out wx ge (HE6.out.below hb HE6.out.lt), HC6.out.below hb, HR6.out.below hb⟩⟩
    obtain ⟨st, hst⟩ : ∃ st, strOfNums l = st := ⟨_, rfl⟩
    have Hst := Keep.mk hst
    clear hst
    refine wp_region_held_drew (S := fun wx => wx.rangeAt gm 0 (ndA N.au N.ck (.slice ea N.ps.length ec) (.slice fa N.ops.length fc)).toList ∧ wx.rangeAt ge 0 (bytesA 32 hc).toList ∧ RowAt wx (.slice (some ⟨gb, 0, none⟩) l.length l.length) l ∧ RowAt wx (.slice va l.length vc) l) (by kernel_rfl) (HS0.out _ hD0) (fun hHeld => ?_)
    refine wpAnyH_take (i := 0) (oi := ⟨some 77, Op.load 27 (Operand.tmp 3), 27, _, _, none⟩) (v := .agg (ndA N.au N.ck (.slice ea N.ps.length ec) (.slice fa N.ops.length fc))) rfl (by kernel_rfl) (by kernel_rfl) (by kernel_rfl) (fun _ _ _ h => h) (yieldsIf_loadA (by rfl) 27 (Operand.tmp 3) rfl gm 0 rfl (ndA N.au N.ck (.slice ea N.ps.length ec) (.slice fa N.ops.length fc)) _ (fun w hS => hS.1) Try.underlying27 rfl (Try.size27B _ _ _ _)) hHeld ?_
    simp only [Act.put, List.setIfInBounds_toArray, List.set_cons_zero, List.set_cons_succ]
    refine wpAnyH_ready (rs := [1]) (by kernel_rfl) (by simp) ?_
    refine AllReadyH.cons (o := ⟨some 78, Op.call { callee := Callee.value (Operand.func 12), args := #[Operand.tmp 77], argTypes := #[27] }, 29, _, _, none⟩) rfl (fun K hK => ?_) AllReadyH.nil
    rw [if_pos (by rfl)]
    refine wp_callF 12 _ _ rfl Try.in12 #[.agg (ndA N.au N.ck (.slice ea N.ps.length ec) (.slice fa N.ops.length fc))] (by simp [Act.eval]) (fun vz wz => vz = .int .i64 0 ∧ Below w6.heap.size w6 wz) ?_ ?_
    · refine (check_node N _ _ w6.drew (HN6.out.below hD0)).mono ?_
      rintro e wz ⟨rfl, h⟩
      rw [Hbk.out.1]
      exact ⟨_, rfl, rfl, hD0.trans (h.mono hD0.size)⟩
    rintro vz x1 ⟨rfl, hx1⟩
    have HBx1 := Keep.mk hx1
    clear hx1
    refine hK.out _ _ (HS0.out _ HBx1.out) fun hHeldx1 => ?_
    clear hK
    simp only [Act.put, List.setIfInBounds_toArray, List.set_cons_zero, List.set_cons_succ]
    refine wpAnyH_take (i := 2) (oi := ⟨some 79, Op.binOp BinOp.eql 29 (Operand.tmp 78) (Operand.const (Value.int IntKind.i64 0)) 29, 4, _, _, none⟩) (v := .bool true) rfl (by kernel_rfl) (by kernel_rfl) (by kernel_rfl) (fun _ _ _ h => h) (Or.inl ⟨by rfl, fun w hS => by clear hS; go_simp⟩) hHeldx1 ?_
    simp only [Act.put, List.setIfInBounds_toArray, List.set_cons_zero, List.set_cons_succ]
    refine wpAnyH_take (i := 3) (oi := ⟨some 80, Op.move (Operand.tmp 79), 4, _, _, none⟩) (v := .bool true) rfl (by kernel_rfl) (by kernel_rfl) (by kernel_rfl) (fun _ _ _ h => h) (Or.inl ⟨by rfl, fun w hS => by clear hS; go_simp⟩) hHeldx1 ?_
    simp only [Act.put, List.setIfInBounds_toArray, List.set_cons_zero, List.set_cons_succ]
    refine wpAnyH_take (i := 4) (oi := ⟨some 81, Op.move (Operand.tmp 12), 29, _, _, some (3, true)⟩) (v := .int .i64 0) rfl (by kernel_rfl) (by kernel_rfl) (by kernel_rfl) (fun _ _ _ h => h) (Or.inl ⟨by rfl, fun w hS => by clear hS; go_simp⟩) hHeldx1 ?_
    simp only [Act.put, List.setIfInBounds_toArray, List.set_cons_zero, List.set_cons_succ]
    refine wpAnyH_take (i := 5) (oi := ⟨some 82, Op.binOp BinOp.eql 29 (Operand.tmp 81) (Operand.const (Value.int IntKind.i64 0)) 29, 4, _, _, some (3, true)⟩) (v := .bool true) rfl (by kernel_rfl) (by kernel_rfl) (by kernel_rfl) (fun _ _ _ h => h) (Or.inl ⟨by rfl, fun w hS => by clear hS; go_simp⟩) hHeldx1 ?_
    simp only [Act.put, List.setIfInBounds_toArray, List.set_cons_zero, List.set_cons_succ]
    refine wpAnyH_take (i := 6) (oi := ⟨some 83, Op.pick (Operand.tmp 80) (Operand.tmp 82) (Operand.const (Value.bool false)), 4, _, _, none⟩) (v := .bool true) rfl (by kernel_rfl) (by kernel_rfl) (by kernel_rfl) (fun _ _ _ h => h) (Or.inl ⟨by rfl, fun w hS => by clear hS; go_simp⟩) hHeldx1 ?_
    simp only [Act.put, List.setIfInBounds_toArray, List.set_cons_zero, List.set_cons_succ]
    refine wpAnyH_take (i := 7) (oi := ⟨some 84, Op.move (Operand.tmp 83), 4, _, _, none⟩) (v := .bool true) rfl (by kernel_rfl) (by kernel_rfl) (by kernel_rfl) (fun _ _ _ h => h) (Or.inl ⟨by rfl, fun w hS => by clear hS; go_simp⟩) hHeldx1 ?_
    simp only [Act.put, List.setIfInBounds_toArray, List.set_cons_zero, List.set_cons_succ]
    refine wpAnyH_take (i := 8) (oi := ⟨some 85, Op.move (Operand.tmp 11), 28, _, _, some (7, true)⟩) (v := .slice (some ⟨gb, 0, none⟩) l.length l.length) rfl (by kernel_rfl) (by kernel_rfl) (by kernel_rfl) (fun _ _ _ h => h) (Or.inl ⟨by rfl, fun w hS => by clear hS; go_simp⟩) hHeldx1 ?_
    simp only [Act.put, List.setIfInBounds_toArray, List.set_cons_zero, List.set_cons_succ]
    refine wpAnyH_take (i := 9) (oi := ⟨some 86, Op.convert 28 9 (Operand.tmp 85), 9, _, _, some (7, true)⟩) (v := .string st) rfl (by kernel_rfl) (by kernel_rfl) (by kernel_rfl) (fun _ _ _ h => h) (Or.inl ⟨by rfl, fun w hS => by have h1 := conv_row _ l w hS.2.2.1; rw [Hst.out] at h1; clear hS; go_simp⟩) hHeldx1 ?_
    simp only [Act.put, List.setIfInBounds_toArray, List.set_cons_zero, List.set_cons_succ]
    refine wpAnyH_take (i := 10) (oi := ⟨some 87, Op.move (Operand.tmp 0), 28, _, _, some (7, true)⟩) (v := .slice va l.length vc) rfl (by kernel_rfl) (by kernel_rfl) (by kernel_rfl) (fun _ _ _ h => h) (Or.inl ⟨by rfl, fun w hS => by clear hS; go_simp⟩) hHeldx1 ?_
    simp only [Act.put, List.setIfInBounds_toArray, List.set_cons_zero, List.set_cons_succ]
    refine wpAnyH_take (i := 11) (oi := ⟨some 88, Op.convert 28 9 (Operand.tmp 87), 9, _, _, some (7, true)⟩) (v := .string st) rfl (by kernel_rfl) (by kernel_rfl) (by kernel_rfl) (fun _ _ _ h => h) (Or.inl ⟨by rfl, fun w hS => by have h1 := conv_row _ l w hS.2.2.2; rw [Hst.out] at h1; clear hS; go_simp⟩) hHeldx1 ?_
    simp only [Act.put, List.setIfInBounds_toArray, List.set_cons_zero, List.set_cons_succ]
    refine wpAnyH_take (i := 12) (oi := ⟨some 89, Op.binOp BinOp.eql 9 (Operand.tmp 86) (Operand.tmp 88) 9, 4, _, _, some (7, true)⟩) (v := .bool true) rfl (by kernel_rfl) (by kernel_rfl) (by kernel_rfl) (fun _ _ _ h => h) (Or.inl ⟨by rfl, fun w hS => by have h1 := bs_refl st; clear hS; go_simp⟩) hHeldx1 ?_
    simp only [Act.put, List.setIfInBounds_toArray, List.set_cons_zero, List.set_cons_succ]
    refine wpAnyH_take (i := 13) (oi := ⟨some 90, Op.pick (Operand.tmp 84) (Operand.tmp 89) (Operand.const (Value.bool false)), 4, _, _, none⟩) (v := .bool true) rfl (by kernel_rfl) (by kernel_rfl) (by kernel_rfl) (fun _ _ _ h => h) (Or.inl ⟨by rfl, fun w hS => by clear hS; go_simp⟩) hHeldx1 ?_
    simp only [Act.put, List.setIfInBounds_toArray, List.set_cons_zero, List.set_cons_succ]
    refine wpAnyH_take (i := 14) (oi := ⟨some 91, Op.move (Operand.tmp 90), 4, _, _, none⟩) (v := .bool true) rfl (by kernel_rfl) (by kernel_rfl) (by kernel_rfl) (fun _ _ _ h => h) (Or.inl ⟨by rfl, fun w hS => by clear hS; go_simp⟩) hHeldx1 ?_
    simp only [Act.put, List.setIfInBounds_toArray, List.set_cons_zero, List.set_cons_succ]
    refine wpAnyH_take (i := 15) (oi := ⟨some 92, Op.load 27 (Operand.tmp 3), 27, _, _, some (14, true)⟩) (v := .agg (ndA N.au N.ck (.slice ea N.ps.length ec) (.slice fa N.ops.length fc))) rfl (by kernel_rfl) (by kernel_rfl) (by kernel_rfl) (fun _ _ _ h => h) (yieldsIf_loadA (by rfl) 27 (Operand.tmp 3) rfl gm 0 rfl (ndA N.au N.ck (.slice ea N.ps.length ec) (.slice fa N.ops.length fc)) _ (fun w hS => hS.1) Try.underlying27 rfl (Try.size27B _ _ _ _)) hHeldx1 ?_
    simp only [Act.put, List.setIfInBounds_toArray, List.set_cons_zero, List.set_cons_succ]
    refine wpAnyH_take (i := 17) (oi := ⟨some 94, Op.move (Operand.tmp 0), 28, _, _, some (14, true)⟩) (v := .slice va l.length vc) rfl (by kernel_rfl) (by kernel_rfl) (by kernel_rfl) (fun _ _ _ h => h) (Or.inl ⟨by rfl, fun w hS => by clear hS; go_simp⟩) hHeldx1 ?_
    simp only [Act.put, List.setIfInBounds_toArray, List.set_cons_zero, List.set_cons_succ]
    refine wpAnyH_take (i := 18) (oi := ⟨some 95, Op.call { callee := Callee.builtin Builtin.len, args := #[Operand.tmp 94], argTypes := #[28] }, 3, _, _, some (14, true)⟩) (v := .int .i64 (l.length : Int)) rfl (by kernel_rfl) (by kernel_rfl) (by kernel_rfl) (fun _ _ _ h => h) (Or.inl ⟨by rfl, fun w hS => by clear hS; go_simp⟩) hHeldx1 ?_
    simp only [Act.put, List.setIfInBounds_toArray, List.set_cons_zero, List.set_cons_succ]
    refine wpAnyH_ready (rs := [16]) (by kernel_rfl) (by simp) ?_
    refine AllReadyH.cons (o := ⟨some 93, Op.call { callee := Callee.value (Operand.func 14), args := #[Operand.tmp 92], argTypes := #[27] }, 3, _, _, some (14, true)⟩) rfl (fun K hK => ?_) AllReadyH.nil
    rw [if_pos (by rfl)]
    refine wp_callF 14 _ _ rfl Try.in14 #[.agg (ndA N.au N.ck (.slice ea N.ps.length ec) (.slice fa N.ops.length fc))] (by simp [Act.eval]) (fun vz wz => vz = .int .i64 (l.length : Int) ∧ Below w6.heap.size w6 wz) ?_ ?_
    · refine (size_any N _ _ x1 (HN6.out.below HBx1.out)).mono ?_
      rintro e wz ⟨rfl, h⟩
      rw [Hsz.out]
      exact ⟨_, rfl, rfl, HBx1.out.trans (h.mono HBx1.out.size)⟩
    rintro vz x2 ⟨rfl, hx2⟩
    have HBx2 := Keep.mk hx2
    clear hx2
    refine hK.out _ _ (HS0.out _ HBx2.out) fun hHeldx2 => ?_
    clear hK
    simp only [Act.put, List.setIfInBounds_toArray, List.set_cons_zero, List.set_cons_succ]
    refine wpAnyH_take (i := 19) (oi := ⟨some 96, Op.binOp BinOp.eql 3 (Operand.tmp 93) (Operand.tmp 95) 3, 4, _, _, some (14, true)⟩) (v := .bool true) rfl (by kernel_rfl) (by kernel_rfl) (by kernel_rfl) (fun _ _ _ h => h) (Or.inl ⟨by rfl, fun w hS => by clear hS; go_simp⟩) hHeldx2 ?_
    simp only [Act.put, List.setIfInBounds_toArray, List.set_cons_zero, List.set_cons_succ]
    refine wpAnyH_take (i := 20) (oi := ⟨some 97, Op.pick (Operand.tmp 91) (Operand.tmp 96) (Operand.const (Value.bool false)), 4, _, _, none⟩) (v := .bool true) rfl (by kernel_rfl) (by kernel_rfl) (by kernel_rfl) (fun _ _ _ h => h) (Or.inl ⟨by rfl, fun w hS => by clear hS; go_simp⟩) hHeldx2 ?_
    simp only [Act.put, List.setIfInBounds_toArray, List.set_cons_zero, List.set_cons_succ]
    refine wpAnyH_take (i := 21) (oi := ⟨some 98, Op.move (Operand.tmp 97), 4, _, _, none⟩) (v := .bool true) rfl (by kernel_rfl) (by kernel_rfl) (by kernel_rfl) (fun _ _ _ h => h) (Or.inl ⟨by rfl, fun w hS => by clear hS; go_simp⟩) hHeldx2 ?_
    simp only [Act.put, List.setIfInBounds_toArray, List.set_cons_zero, List.set_cons_succ]
    refine wpAnyH_take (i := 22) (oi := ⟨some 99, Op.fieldAddr 42 (Operand.tmp 5) 0, 0, _, _, some (21, true)⟩) (v := .pointer (some ⟨ge, 0, none⟩)) rfl (by kernel_rfl) (by kernel_rfl) (by kernel_rfl) (fun _ _ _ h => h) (Or.inl ⟨by rfl, fun w hS => by clear hS; go_simp⟩) hHeldx2 ?_
    simp only [Act.put, List.setIfInBounds_toArray, List.set_cons_zero, List.set_cons_succ]
    refine wpAnyH_take (i := 23) (oi := ⟨some 100, Op.load 40 (Operand.tmp 99), 40, _, _, some (21, true)⟩) (v := .agg (bytesA 32 hc)) rfl (by kernel_rfl) (by kernel_rfl) (by kernel_rfl) (fun _ _ _ h => h) (yieldsIf_loadA (by rfl) 40 (Operand.tmp 99) rfl ge 0 rfl (bytesA 32 hc) _ (fun w hS => hS.2.1) Try.underlying40 rfl (Try.size40B _)) hHeldx2 ?_
    simp only [Act.put, List.setIfInBounds_toArray, List.set_cons_zero, List.set_cons_succ]
    refine wpAnyH_take (i := 24) (oi := ⟨some 101, Op.move (Operand.tmp 0), 28, _, _, some (21, true)⟩) (v := .slice va l.length vc) rfl (by kernel_rfl) (by kernel_rfl) (by kernel_rfl) (fun _ _ _ h => h) (Or.inl ⟨by rfl, fun w hS => by clear hS; go_simp⟩) hHeldx2 ?_
    simp only [Act.put, List.setIfInBounds_toArray, List.set_cons_zero, List.set_cons_succ]
    refine wpAnyH_ready (rs := [25]) (by kernel_rfl) (by simp) ?_
    refine AllReadyH.cons (o := ⟨some 102, Op.call { callee := Callee.value (Operand.func 19), args := #[Operand.tmp 101], argTypes := #[28] }, 40, _, _, some (21, true)⟩) rfl (fun K hK => ?_) AllReadyH.nil
    rw [if_pos (by rfl)]
    refine wp_callF 19 _ _ rfl Try.in19 #[.slice va l.length vc] (by simp [Act.eval]) (fun vz wz => vz = .agg (bytesA 32 hc) ∧ Below w6.heap.size w6 wz) ?_ ?_
    · refine (of_is _ l x2 (HR6.out.below HBx2.out) (by have := H1.out; omega) hc Hhc.out).mono ?_
      rintro e wz ⟨rfl, h⟩
      exact ⟨_, rfl, rfl, HBx2.out.trans (h.mono HBx2.out.size)⟩
    rintro vz x3 ⟨rfl, hx3⟩
    have HBx3 := Keep.mk hx3
    clear hx3
    refine hK.out _ _ (HS0.out _ HBx3.out) fun hHeldx3 => ?_
    clear hK
    simp only [Act.put, List.setIfInBounds_toArray, List.set_cons_zero, List.set_cons_succ]
    refine wpAnyH_take (i := 26) (oi := ⟨some 103, Op.binOp BinOp.eql 40 (Operand.tmp 100) (Operand.tmp 102) 40, 4, _, _, some (21, true)⟩) (v := .bool true) rfl (by kernel_rfl) (by kernel_rfl) (by kernel_rfl) (fun _ _ _ h => h) (yieldsIf_run (by rfl) .eql 40 40 (Operand.tmp 100) (Operand.tmp 102) rfl _ _ _ rfl rfl (fun w => ⟨_, rfl⟩) (eqlA hc)) hHeldx3 ?_
    simp only [Act.put, List.setIfInBounds_toArray, List.set_cons_zero, List.set_cons_succ]
    refine wpAnyH_take (i := 27) (oi := ⟨some 104, Op.pick (Operand.tmp 98) (Operand.tmp 103) (Operand.const (Value.bool false)), 4, _, _, none⟩) (v := .bool true) rfl (by kernel_rfl) (by kernel_rfl) (by kernel_rfl) (fun _ _ _ h => h) (Or.inl ⟨by rfl, fun w hS => by clear hS; go_simp⟩) hHeldx3 ?_
    simp only [Act.put, List.setIfInBounds_toArray, List.set_cons_zero, List.set_cons_succ]
    refine wpAnyH_take (i := 28) (oi := ⟨some 2, Op.assign (Operand.tmp 104), 4, _, _, none⟩) (v := .bool true) rfl (by kernel_rfl) (by kernel_rfl) (by kernel_rfl) (fun _ _ _ h => h) (Or.inl ⟨by rfl, fun w hS => by clear hS; go_simp⟩) hHeldx3 ?_
    simp only [Act.put, List.setIfInBounds_toArray, List.set_cons_zero, List.set_cons_succ]
    refine wpAnyH_done (by kernel_rfl) ?_ _
    refine hK9 _ _ ?_
    refine wp_ret ?_
    go_ret
    exact ⟨rfl, B6.out.trans (HBx3.out.mono B6.out.size)⟩
  · refine ⟨_, rfl, ?_⟩
    have H1 := Keep.mk h1
    have HB2 := Keep.mk hbad
    have B2 : Keep (Below w.heap.size w w2) := ⟨B1.out.trans (hb2.mono B1.out.size)⟩
    have HR2 := Keep.mk (HR1.out.below hb2)
    clear h1 hbad hb2 hq
    unfold err
    simp only [Act.put, List.setIfInBounds_toArray, List.set_cons_zero, List.set_cons_succ]
    refine WL.val (by kernel_rfl) (.tuple #[.agg (ndA 0 0 noS noS), .iface 68 (ptr q)]) (by go_simp) ?_
    simp only [Act.put, List.setIfInBounds_toArray, List.set_cons_zero, List.set_cons_succ]
    refine WL.val (by kernel_rfl) (.agg (ndA 0 0 noS noS)) (by go_simp) ?_
    simp only [Act.put, List.setIfInBounds_toArray, List.set_cons_zero, List.set_cons_succ]
    refine WL.val (by kernel_rfl) (.iface 68 (ptr q)) (by go_simp) ?_
    simp only [Act.put, List.setIfInBounds_toArray, List.set_cons_zero, List.set_cons_succ]
    refine WL.new (by kernel_rfl) 27 rfl _ Try.new27N ?_
    simp only [Act.put, List.setIfInBounds_toArray, List.set_cons_zero, List.set_cons_succ]
    refine WL.storeR (by kernel_rfl) 27 (.tmp 3) (.tmp 18) rfl w2.heap.size (ndA 0 0 noS noS) rfl rfl 27 (ndA 0 0 noS noS) (Blk.new w2 27 _) (Try.size27B _ _ _ _) rfl (nd_one 0 0 none 0 0 none 0 0) ?_
    have HM3 := Keep.mk ((Blk.new w2 27 (ndA 0 0 noS noS)).setRow (ndA 0 0 noS noS))
    have BS3 : Keep (Below w2.heap.size w2 ((w2.alloc (.cells (ndA 0 0 noS noS) 27)).setRow w2.heap.size (ndA 0 0 noS noS))) := ⟨below_setRow (below_new w2 _) (Nat.le_refl _) _⟩
    generalize (w2.alloc (.cells (ndA 0 0 noS noS) 27)).setRow w2.heap.size (ndA 0 0 noS noS) = w3 at *
    have B3 : Keep (Below w.heap.size w w3) := ⟨B2.out.trans (BS3.out.mono B2.out.size)⟩
    have HR3 := Keep.mk (HR2.out.below BS3.out)
    have HB3 : Keep (BadAt w3 q (badR l).1 (badR l).2) := ⟨HB2.out.below BS3.out HB2.out.lt⟩
    generalize w2.heap.size = gm at *
    simp only [Act.put]
    refine WL.val (by kernel_rfl) (.iface 68 (ptr q)) (by go_simp) ?_
    simp only [Act.put, List.setIfInBounds_toArray, List.set_cons_zero, List.set_cons_succ]
    refine WL.nil ?_
    refine hK4 _ _ ?_
    refine wp_seq_k fun K10 hK10 => ?_
    refine wp_region_list (WL.out ?_)
    refine WL.val (by kernel_rfl) (.slice va l.length vc) (by go_simp) ?_
    simp only [Act.put, List.setIfInBounds_toArray, List.set_cons_zero, List.set_cons_succ]
    refine WL.callF (by kernel_rfl) 17 _ _ rfl Try.in17 #[.slice va l.length vc] (by simp [Act.eval]) ?_
    refine (entry_any _ l w3 HR3.out HBy.out).mono ?_
    rintro e w4 h4
    obtain ⟨r, rfl, hbad4, hb4⟩ : ∃ r, e = .returned (.tuple #[.agg zEn, err r]) ∧ BadAt w4 r (badR l).1 (badR l).2 ∧ Below w3.heap.size w3 w4 := by
      rcases h4 with ⟨h5, h6, _⟩ | ⟨_, r, _, h5, h6, h7⟩
      · rcases H1.out with h7 | ⟨_, h7⟩
        · omega
        · exact absurd h6 h7
      · exact ⟨r, h5, h6, h7⟩
    refine ⟨_, rfl, ?_⟩
    clear h4
    unfold err
    have B4 : Keep (Below w.heap.size w w4) := ⟨B3.out.trans (hb4.mono B3.out.size)⟩
    have HM4 := Keep.mk (HM3.out.below hb4 HM3.out.lt)
    have HB4 : Keep (BadAt w4 q (badR l).1 (badR l).2) := ⟨HB3.out.below hb4 HB3.out.lt⟩
    have HC4 := Keep.mk hbad4
    clear hbad4 hb4
    simp only [Act.put, List.setIfInBounds_toArray, List.set_cons_zero, List.set_cons_succ]
    refine WL.val (by kernel_rfl) (.tuple #[.agg zEn, .iface 68 (ptr r)]) (by go_simp) ?_
    simp only [Act.put, List.setIfInBounds_toArray, List.set_cons_zero, List.set_cons_succ]
    refine WL.val (by kernel_rfl) (.agg zEn) (by go_simp) ?_
    simp only [Act.put, List.setIfInBounds_toArray, List.set_cons_zero, List.set_cons_succ]
    refine WL.val (by kernel_rfl) (.iface 68 (ptr r)) (by go_simp) ?_
    simp only [Act.put, List.setIfInBounds_toArray, List.set_cons_zero, List.set_cons_succ]
    refine WL.new (by kernel_rfl) 42 rfl _ Try.new42 ?_
    simp only [Act.put, List.setIfInBounds_toArray, List.set_cons_zero, List.set_cons_succ]
    refine WL.storeR (by kernel_rfl) 42 (.tmp 5) (.tmp 23) rfl w4.heap.size (zEn) rfl rfl 42 (zEn) (Blk.new w4 42 _) (Try.size42B _ _ _ _ _) rfl (enA_one _ 0 0 none 0 0 none 0 0) ?_
    have HE5 := Keep.mk ((Blk.new w4 42 (zEn)).setRow (zEn))
    have BS5 : Keep (Below w4.heap.size w4 ((w4.alloc (.cells (zEn) 42)).setRow w4.heap.size (zEn))) := ⟨below_setRow (below_new w4 _) (Nat.le_refl _) _⟩
    generalize (w4.alloc (.cells (zEn) 42)).setRow w4.heap.size (zEn) = w5 at *
    have B5 : Keep (Below w.heap.size w w5) := ⟨B4.out.trans (BS5.out.mono B4.out.size)⟩
    have HM5 := Keep.mk (HM4.out.below BS5.out HM4.out.lt)
    have HB5 : Keep (BadAt w5 q (badR l).1 (badR l).2) := ⟨HB4.out.below BS5.out HB4.out.lt⟩
    have HC5 : Keep (BadAt w5 r (badR l).1 (badR l).2) := ⟨HC4.out.below BS5.out HC4.out.lt⟩
    generalize w4.heap.size = ge at *
    have Hwy := Keep.mk (badR_no H1.out)
    have Hat := Keep.mk (badR_at l)
    obtain ⟨why, hwhy⟩ : ∃ why, (badR l).1 = why := ⟨_, rfl⟩
    obtain ⟨at_, hat⟩ : ∃ at_, (badR l).2 = at_ := ⟨_, rfl⟩
    rw [hwhy, hat] at HB5 HC5
    rw [hwhy] at Hwy
    rw [hat] at Hat
    have hati : (at_ : Int) ≤ (l.length : Int) := by have := Hat.out; omega
    clear hwhy hat
    simp only [Act.put]
    refine WL.val (by kernel_rfl) (.iface 68 (ptr r)) (by go_simp) ?_
    simp only [Act.put, List.setIfInBounds_toArray, List.set_cons_zero, List.set_cons_succ]
    refine WL.nil ?_
    refine hK10 _ _ ?_
    refine wp_seq_k fun K11 hK11 => ?_
    refine wp_seq_k fun K12 hK12 => ?_
    refine wp_region_list (WL.out ?_)
    refine WL.val (by kernel_rfl) (.iface 68 (ptr q)) (by go_simp) ?_
    simp only [Act.put, List.setIfInBounds_toArray, List.set_cons_zero, List.set_cons_succ]
    refine WL.val (by kernel_rfl) (.bool true) (by go_simp) ?_
    simp only [Act.put, List.setIfInBounds_toArray, List.set_cons_zero, List.set_cons_succ]
    refine WL.val (by kernel_rfl) (.bool true) (by go_simp) ?_
    simp only [Act.put, List.setIfInBounds_toArray, List.set_cons_zero, List.set_cons_succ]
    refine WL.skip (by kernel_rfl) ?_
    simp only [Act.put, List.setIfInBounds_toArray, List.set_cons_zero, List.set_cons_succ]
    refine WL.skip (by kernel_rfl) ?_
    simp only [Act.put, List.setIfInBounds_toArray, List.set_cons_zero, List.set_cons_succ]
    refine WL.val (by kernel_rfl) (.bool true) (by go_simp) ?_
    simp only [Act.put, List.setIfInBounds_toArray, List.set_cons_zero, List.set_cons_succ]
    refine WL.nil ?_
    refine hK12 _ _ ?_
    refine wp_cond_true rfl ?_
    refine wp_seq_k fun K13 hK13 => ?_
    refine wp_region_list (WL.out ?_)
    refine WL.val (by kernel_rfl) (.iface 68 (ptr q)) (by go_simp) ?_
    simp only [Act.put, List.setIfInBounds_toArray, List.set_cons_zero, List.set_cons_succ]
    refine WL.callF (by kernel_rfl) 21 _ _ rfl Try.in21 #[.iface 68 (ptr q)] (by simp [Act.eval]) ?_
    refine (told_err q why at_ w5 HB5.out Hwy.out).mono ?_
    rintro e w6 ⟨rfl, hb6⟩
    refine ⟨_, rfl, ?_⟩
    have B6 : Keep (Below w.heap.size w w6) := ⟨B5.out.trans (hb6.mono B5.out.size)⟩
    have HM6 := Keep.mk (HM5.out.below hb6 HM5.out.lt)
    have HE6 := Keep.mk (HE5.out.below hb6 HE5.out.lt)
    have HC6 : Keep (BadAt w6 r why at_) := ⟨HC5.out.below hb6 HC5.out.lt⟩
    clear hb6
    simp only [Act.put, List.setIfInBounds_toArray, List.set_cons_zero, List.set_cons_succ]
    refine WL.val (by kernel_rfl) (.tuple #[.agg (erA why (at_ : Int)), .bool true]) (by go_simp) ?_
    simp only [Act.put, List.setIfInBounds_toArray, List.set_cons_zero, List.set_cons_succ]
    refine WL.val (by kernel_rfl) (.agg (erA why (at_ : Int))) (by go_simp) ?_
    simp only [Act.put, List.setIfInBounds_toArray, List.set_cons_zero, List.set_cons_succ]
    refine WL.val (by kernel_rfl) (.bool true) (by go_simp) ?_
    simp only [Act.put, List.setIfInBounds_toArray, List.set_cons_zero, List.set_cons_succ]
    refine WL.new (by kernel_rfl) 49 rfl _ Try.new49E ?_
    simp only [Act.put, List.setIfInBounds_toArray, List.set_cons_zero, List.set_cons_succ]
    refine WL.storeR (by kernel_rfl) 49 (.tmp 7) (.tmp 34) rfl w6.heap.size (erA why (at_ : Int)) rfl rfl 49 (erA 0 0) (Blk.new w6 49 _) (Try.size49B _ _) (erA_sizes _ _ _ _) (erA_one _ _) ?_
    have HF7 := Keep.mk ((Blk.new w6 49 (erA 0 0)).setRow (erA why (at_ : Int)))
    have BS7 : Keep (Below w6.heap.size w6 ((w6.alloc (.cells (erA 0 0) 49)).setRow w6.heap.size (erA why (at_ : Int)))) := ⟨below_setRow (below_new w6 _) (Nat.le_refl _) _⟩
    generalize (w6.alloc (.cells (erA 0 0) 49)).setRow w6.heap.size (erA why (at_ : Int)) = w7 at *
    have B7 : Keep (Below w.heap.size w w7) := ⟨B6.out.trans (BS7.out.mono B6.out.size)⟩
    have HM7 := Keep.mk (HM6.out.below BS7.out HM6.out.lt)
    have HE7 := Keep.mk (HE6.out.below BS7.out HE6.out.lt)
    have HC7 : Keep (BadAt w7 r why at_) := ⟨HC6.out.below BS7.out HC6.out.lt⟩
    generalize w6.heap.size = g7 at *
    simp only [Act.put]
    refine WL.val (by kernel_rfl) (.bool true) (by go_simp) ?_
    simp only [Act.put, List.setIfInBounds_toArray, List.set_cons_zero, List.set_cons_succ]
    refine WL.nil ?_
    refine hK13 _ _ ?_
    refine wp_seq_k fun K14 hK14 => ?_
    refine wp_region_list (WL.out ?_)
    refine WL.val (by kernel_rfl) (.iface 68 (ptr r)) (by go_simp) ?_
    simp only [Act.put, List.setIfInBounds_toArray, List.set_cons_zero, List.set_cons_succ]
    refine WL.callF (by kernel_rfl) 21 _ _ rfl Try.in21 #[.iface 68 (ptr r)] (by simp [Act.eval]) ?_
    refine (told_err r why at_ w7 HC7.out Hwy.out).mono ?_
    rintro e w8 ⟨rfl, hb8⟩
    refine ⟨_, rfl, ?_⟩
    have B8 : Keep (Below w.heap.size w w8) := ⟨B7.out.trans (hb8.mono B7.out.size)⟩
    have HM8 := Keep.mk (HM7.out.below hb8 HM7.out.lt)
    have HE8 := Keep.mk (HE7.out.below hb8 HE7.out.lt)
    have HF8 := Keep.mk (HF7.out.below hb8 HF7.out.lt)
    clear hb8
    simp only [Act.put, List.setIfInBounds_toArray, List.set_cons_zero, List.set_cons_succ]
    refine WL.val (by kernel_rfl) (.tuple #[.agg (erA why (at_ : Int)), .bool true]) (by go_simp) ?_
    simp only [Act.put, List.setIfInBounds_toArray, List.set_cons_zero, List.set_cons_succ]
    refine WL.val (by kernel_rfl) (.agg (erA why (at_ : Int))) (by go_simp) ?_
    simp only [Act.put, List.setIfInBounds_toArray, List.set_cons_zero, List.set_cons_succ]
    refine WL.val (by kernel_rfl) (.bool true) (by go_simp) ?_
    simp only [Act.put, List.setIfInBounds_toArray, List.set_cons_zero, List.set_cons_succ]
    refine WL.new (by kernel_rfl) 49 rfl _ Try.new49E ?_
    simp only [Act.put, List.setIfInBounds_toArray, List.set_cons_zero, List.set_cons_succ]
    refine WL.storeR (by kernel_rfl) 49 (.tmp 9) (.tmp 39) rfl w8.heap.size (erA why (at_ : Int)) rfl rfl 49 (erA 0 0) (Blk.new w8 49 _) (Try.size49B _ _) (erA_sizes _ _ _ _) (erA_one _ _) ?_
    have HG9 := Keep.mk ((Blk.new w8 49 (erA 0 0)).setRow (erA why (at_ : Int)))
    have BS9 : Keep (Below w8.heap.size w8 ((w8.alloc (.cells (erA 0 0) 49)).setRow w8.heap.size (erA why (at_ : Int)))) := ⟨below_setRow (below_new w8 _) (Nat.le_refl _) _⟩
    generalize (w8.alloc (.cells (erA 0 0) 49)).setRow w8.heap.size (erA why (at_ : Int)) = w9 at *
    have B9 : Keep (Below w.heap.size w w9) := ⟨B8.out.trans (BS9.out.mono B8.out.size)⟩
    have HM9 := Keep.mk (HM8.out.below BS9.out HM8.out.lt)
    have HE9 := Keep.mk (HE8.out.below BS9.out HE8.out.lt)
    have HF9 := Keep.mk (HF8.out.below BS9.out HF8.out.lt)
    generalize w8.heap.size = g9 at *
    have z1 : w9.cell? ⟨g7, 1, none⟩ = some (.int .i64 (at_ : Int)) := HF9.out.c 1 rfl
    have hee := eqlE why (at_ : Int)
    simp only [Act.put]
    refine WL.val (by kernel_rfl) (.bool true) (by go_simp) ?_
    simp only [Act.put, List.setIfInBounds_toArray, List.set_cons_zero, List.set_cons_succ]
    refine WL.nil ?_
    refine hK14 _ _ ?_
    refine wp_seq_k fun K15 hK15 => ?_
    refine wp_region_list (WL.out ?_)
    refine WL.val (by kernel_rfl) (.bool true) (by go_simp) ?_
    simp only [Act.put, List.setIfInBounds_toArray, List.set_cons_zero, List.set_cons_succ]
    refine WL.val (by kernel_rfl) (.bool true) (by go_simp) ?_
    simp only [Act.put, List.setIfInBounds_toArray, List.set_cons_zero, List.set_cons_succ]
    refine WL.val (by kernel_rfl) (.bool true) (by go_simp) ?_
    simp only [Act.put, List.setIfInBounds_toArray, List.set_cons_zero, List.set_cons_succ]
    refine WL.val (by kernel_rfl) (.bool true) (by go_simp) ?_
    simp only [Act.put, List.setIfInBounds_toArray, List.set_cons_zero, List.set_cons_succ]
    refine WL.val (by kernel_rfl) (.bool true) (by go_simp) ?_
    simp only [Act.put, List.setIfInBounds_toArray, List.set_cons_zero, List.set_cons_succ]
    refine WL.row (by kernel_rfl) 49 (.tmp 7) rfl g7 rfl 49 (erA why (at_ : Int)) _ HF9.out Try.underlying49 rfl (Try.size49B _ _) ?_
    simp only [Act.put, List.setIfInBounds_toArray, List.set_cons_zero, List.set_cons_succ]
    refine WL.row (by kernel_rfl) 49 (.tmp 9) rfl g9 rfl 49 (erA why (at_ : Int)) _ HG9.out Try.underlying49 rfl (Try.size49B _ _) ?_
    simp only [Act.put, List.setIfInBounds_toArray, List.set_cons_zero, List.set_cons_succ]
    refine WL.val (by kernel_rfl) (.bool true) (by go_simp) ?_
    simp only [Act.put, List.setIfInBounds_toArray, List.set_cons_zero, List.set_cons_succ]
    refine WL.val (by kernel_rfl) (.bool true) (by go_simp) ?_
    simp only [Act.put, List.setIfInBounds_toArray, List.set_cons_zero, List.set_cons_succ]
    refine WL.val (by kernel_rfl) (.bool true) (by go_simp) ?_
    simp only [Act.put, List.setIfInBounds_toArray, List.set_cons_zero, List.set_cons_succ]
    refine WL.val (by kernel_rfl) (.pointer (some ⟨g7, 1, none⟩)) (by go_simp) ?_
    simp only [Act.put, List.setIfInBounds_toArray, List.set_cons_zero, List.set_cons_succ]
    refine WL.val (by kernel_rfl) (.int .i64 (at_ : Int)) (by go_simp) ?_
    simp only [Act.put, List.setIfInBounds_toArray, List.set_cons_zero, List.set_cons_succ]
    refine WL.val (by kernel_rfl) (.bool true) (by go_simp) ?_
    simp only [Act.put, List.setIfInBounds_toArray, List.set_cons_zero, List.set_cons_succ]
    refine WL.val (by kernel_rfl) (.bool true) (by go_simp) ?_
    simp only [Act.put, List.setIfInBounds_toArray, List.set_cons_zero, List.set_cons_succ]
    refine WL.val (by kernel_rfl) (.bool true) (by go_simp) ?_
    simp only [Act.put, List.setIfInBounds_toArray, List.set_cons_zero, List.set_cons_succ]
    refine WL.val (by kernel_rfl) (.pointer (some ⟨g7, 1, none⟩)) (by go_simp) ?_
    simp only [Act.put, List.setIfInBounds_toArray, List.set_cons_zero, List.set_cons_succ]
    refine WL.val (by kernel_rfl) (.int .i64 (at_ : Int)) (by go_simp) ?_
    simp only [Act.put, List.setIfInBounds_toArray, List.set_cons_zero, List.set_cons_succ]
    refine WL.val (by kernel_rfl) (.slice va l.length vc) (by go_simp) ?_
    simp only [Act.put, List.setIfInBounds_toArray, List.set_cons_zero, List.set_cons_succ]
    refine WL.val (by kernel_rfl) (.int .i64 (l.length : Int)) (by go_simp) ?_
    simp only [Act.put, List.setIfInBounds_toArray, List.set_cons_zero, List.set_cons_succ]
    refine WL.val (by kernel_rfl) (.bool true) (by go_simp) ?_
    simp only [Act.put, List.setIfInBounds_toArray, List.set_cons_zero, List.set_cons_succ]
    refine WL.val (by kernel_rfl) (.bool true) (by go_simp) ?_
    simp only [Act.put, List.setIfInBounds_toArray, List.set_cons_zero, List.set_cons_succ]
    refine WL.val (by kernel_rfl) (.bool true) (by go_simp) ?_
    simp only [Act.put, List.setIfInBounds_toArray, List.set_cons_zero, List.set_cons_succ]
    refine WL.row (by kernel_rfl) 27 (.tmp 3) rfl gm rfl 27 (ndA 0 0 noS noS) _ HM9.out Try.underlying27 rfl (Try.size27B _ _ _ _) ?_
    simp only [Act.put, List.setIfInBounds_toArray, List.set_cons_zero, List.set_cons_succ]
    refine WL.bld (by kernel_rfl) 27 _ rfl [] (by simp) _ nd_built0 ?_
    simp only [Act.put, List.setIfInBounds_toArray, List.set_cons_zero, List.set_cons_succ]
    refine WL.callF (by kernel_rfl) 18 _ _ rfl Try.in18 #[.agg (ndA 0 0 noS noS), .agg (ndA 0 0 noS noS)] (by simp [Act.eval]) ?_
    refine (rsame_node zeroN zeroN noS noS noS noS w9 (ndAt_empty w9 zeroN rfl rfl (by decide) (by decide)) (ndAt_empty w9 zeroN rfl rfl (by decide) (by decide))).mono ?_
    rintro e y1 ⟨rfl, hby⟩
    refine ⟨_, rfl, ?_⟩
    rw [sameN_refl]
    have By1 : Keep (Below w.heap.size w y1) := ⟨B9.out.trans (hby.mono B9.out.size)⟩
    have HEy := Keep.mk (HE9.out.below hby HE9.out.lt)
    clear hby
    simp only [Act.put, List.setIfInBounds_toArray, List.set_cons_zero, List.set_cons_succ]
    refine WL.val (by kernel_rfl) (.bool true) (by go_simp) ?_
    simp only [Act.put, List.setIfInBounds_toArray, List.set_cons_zero, List.set_cons_succ]
    refine WL.val (by kernel_rfl) (.bool true) (by go_simp) ?_
    simp only [Act.put, List.setIfInBounds_toArray, List.set_cons_zero, List.set_cons_succ]
    refine WL.row (by kernel_rfl) 42 (.tmp 5) rfl ge rfl 42 zEn _ HEy.out Try.underlying42 rfl (Try.size42B _ _ _ _ _) ?_
    simp only [Act.put, List.setIfInBounds_toArray, List.set_cons_zero, List.set_cons_succ]
    refine WL.bld (by kernel_rfl) 42 _ rfl [] (by simp) _ en_built0 ?_
    simp only [Act.put, List.setIfInBounds_toArray, List.set_cons_zero, List.set_cons_succ]
    refine WL.callF (by kernel_rfl) 22 _ _ rfl Try.in22 #[.agg zEn, .agg zEn] (by simp [Act.eval]) ?_
    refine (sameEntry_zero y1).mono ?_
    rintro e y2 ⟨rfl, hby⟩
    refine ⟨_, rfl, ?_⟩
    have By2 : Keep (Below w.heap.size w y2) := ⟨By1.out.trans (hby.mono By1.out.size)⟩
    clear hby
    simp only [Act.put, List.setIfInBounds_toArray, List.set_cons_zero, List.set_cons_succ]
    refine WL.val (by kernel_rfl) (.bool true) (by go_simp) ?_
    simp only [Act.put, List.setIfInBounds_toArray, List.set_cons_zero, List.set_cons_succ]
    refine WL.val (by kernel_rfl) (.bool true) (by go_simp) ?_
    simp only [Act.put, List.setIfInBounds_toArray, List.set_cons_zero, List.set_cons_succ]
    refine WL.nil ?_
    refine hK15 _ _ ?_
    refine wp_ret ?_
    go_ret
    exact ⟨rfl, By2.out⟩
end Go.Proofs.Ytgpgnldcdimmbaa
namespace Go.Proofs.Ytgpgnldcdimmbaa
open Go.ChangeShapes Go.WideShapes Go.ChangeAt Go.RowKit Go.Deep

theorem Try.cellsOf79 : Try.prog.cellsOf 79 = 37 := by kernel_rfl
theorem Try.cellsOf77 : Try.prog.cellsOf 77 = 33 := by kernel_rfl
theorem Try.cellsOf40 : Try.prog.cellsOf 40 = 32 := by kernel_rfl
theorem Try.cellsOf28 : Try.prog.cellsOf 28 = 1 := by kernel_rfl
theorem Try.cellsOf3 : Try.prog.cellsOf 3 = 1 := by kernel_rfl
theorem Try.cellsOf2 : Try.prog.cellsOf 2 = 1 := by kernel_rfl
theorem Try.cellsOf9 : Try.prog.cellsOf 9 = 1 := by kernel_rfl
theorem Try.cellsOf5 : Try.prog.cellsOf 5 = 1 := by kernel_rfl
theorem Try.bytesOf79 : Try.prog.bytesOf 79 = 88 := by kernel_rfl
theorem Try.bytesOf5 : Try.prog.bytesOf 5 = 1 := by kernel_rfl
theorem reach_is : reachBytes = 140737488351232 := by decide
theorem add_none' (b o i : Nat) : (⟨b, o, none⟩ : Addr).add i = ⟨b, o + i, none⟩ := by
  cases i with
  | zero => rfl
  | succ i => rfl
theorem mem_weightsAll {H : Type} {P : Program} {e : TypeId} {d : DataW H} : ∀ {ds : List (DataW H)}, d ∈ ds → ∀ n ∈ d.weights P e, n ∈ DataW.weightsAll P e ds
  | d0 :: ds, h, n, hn => by
    simp only [DataW.weightsAll, List.mem_append]
    rcases List.mem_cons.1 h with rfl | h
    · exact .inl hn
    · exact .inr (mem_weightsAll h n hn)
theorem wf_u8 {n : Int} (h : (Lit.int .u8 n).wf = true) : 0 ≤ n ∧ n < 256 := by
  have h1 : IntKind.u8.min = 0 := by decide
  have h2 : IntKind.u8.max = 255 := by decide
  simp only [Lit.wf, h1, h2, Bool.and_eq_true, decide_eq_true_eq] at h
  omega
theorem wf_i64 {n : Int} (h : (Lit.int .i64 n).wf = true) : -9223372036854775808 ≤ n ∧ n ≤ 9223372036854775807 := by
  have h1 : IntKind.i64.min = -9223372036854775808 := by decide
  have h2 : IntKind.i64.max = 9223372036854775807 := by decide
  simp only [Lit.wf, h1, h2, Bool.and_eq_true, decide_eq_true_eq] at h
  omega

theorem row_of_trod {H : Type} {enc : TypeId × Value → H} {W : World} {sp : Nat → Bool} {held : Bool} {n base : Nat} {v : Value} {x : DataW H × List MemPlace} (hf : DataW.trod enc Try.prog W base sp held n 28 [v] = some x) (hw : ∀ n ∈ x.1.weights Try.prog 28, n ≤ reachBytes) :
    ∃ l : List Int, RowAt W v l ∧ Byts l ∧ l.length ≤ 140737488351232 := by
  rcases open_ints Try.underlying28 Try.underlying5 Try.cellsOf5 hf with ⟨hcs, _⟩ | ⟨a, len, cap, zs, hcs, _, hl, hm, hz, hx, hcell, hwz⟩
  · simp at hcs
    subst hcs
    exact ⟨[], .inl ⟨rfl, rfl⟩, Byts.nil, by simp⟩
  · simp at hcs
    subst hcs
    unfold maxLen at hm
    have hlz : len ≤ zs.length := by rw [hz]; split <;> omega
    have hbz : Byts zs := fun c hc => wf_u8 (hwz c hc)
    have hb : len ≤ 140737488351232 := by
      have h1 := hw ((zs.take len).length + (zs.drop len).length) (by
        rw [hx]
        simp only [DataW.weights, Try.underlying28]
        simp [lits, Try.bytesOf5])
      rw [List.length_take, reach_is] at h1
      omega
    by_cases h0 : len = 0
    · subst h0
      exact ⟨[], .inr (.inl ⟨a, cap, rfl, rfl⟩), Byts.nil, by simp⟩
    · have hs : a.spot = none := by
        have := hcell 0 (by omega)
        rw [show a.add 0 = a from rfl] at this
        exact World.cell?_spot this
      obtain ⟨b, off, sp⟩ := a
      obtain rfl : sp = none := hs
      have hlen : (zs.take len).length = len := by rw [List.length_take]; omega
      refine ⟨zs.take len, .inr (.inr ⟨b, off, cap, by rw [hlen], by omega, fun i hi => ?_⟩), hbz.take len, by omega⟩
      rw [hlen] at hi
      have := hcell i (by omega)
      rw [add_none'] at this
      rw [this]
      simp [List.getD, hi]

theorem trod_struct5 {H : Type} {enc : TypeId × Value → H} {P : Program} {w : World} {base : Nat} {spare : Nat → Bool} {held : Bool} {t : TypeId} {f0 f1 f2 f3 f4 : Field} {fuel : Nat} {cs : List Value} {x : DataW H × List MemPlace} (ht : P.underlying t = some (.struct #[f0, f1, f2, f3, f4])) (h : DataW.trod enc P w base spare held fuel t cs = some x) :
    ∃ y0 y1 y2 y3 y4 n, x.1 = .agg [y0.1, y1.1, y2.1, y3.1, y4.1] ∧ cs.length = P.cellsOf t ∧ DataW.trod enc P w base spare held n f0.type ((cs.drop f0.offset).take (P.cellsOf f0.type)) = some y0 ∧
      DataW.trod enc P w base spare held n f1.type ((cs.drop f1.offset).take (P.cellsOf f1.type)) = some y1 ∧ DataW.trod enc P w base spare held n f2.type ((cs.drop f2.offset).take (P.cellsOf f2.type)) = some y2 ∧ DataW.trod enc P w base spare held n f3.type ((cs.drop f3.offset).take (P.cellsOf f3.type)) = some y3 ∧ DataW.trod enc P w base spare held n f4.type ((cs.drop f4.offset).take (P.cellsOf f4.type)) = some y4 := by
  obtain ⟨xs, n, _, rfl, hl, hlen, hf⟩ := DataW.trod_struct ht h
  match xs, hlen with
  | [y0, y1, y2, y3, y4], _ => exact ⟨y0, y1, y2, y3, y4, n, by simp, hl, by simpa using hf 0 f0 rfl, by simpa using hf 1 f1 rfl, by simpa using hf 2 f2 rfl, by simpa using hf 3 f3 rfl, by simpa using hf 4 f4 rfl⟩
theorem trod_struct2 {H : Type} {enc : TypeId × Value → H} {P : Program} {w : World} {base : Nat} {spare : Nat → Bool} {held : Bool} {t : TypeId} {f0 f1 : Field} {fuel : Nat} {cs : List Value} {x : DataW H × List MemPlace} (ht : P.underlying t = some (.struct #[f0, f1])) (h : DataW.trod enc P w base spare held fuel t cs = some x) :
    ∃ y0 y1 n, x.1 = .agg [y0.1, y1.1] ∧ cs.length = P.cellsOf t ∧ DataW.trod enc P w base spare held n f0.type ((cs.drop f0.offset).take (P.cellsOf f0.type)) = some y0 ∧
      DataW.trod enc P w base spare held n f1.type ((cs.drop f1.offset).take (P.cellsOf f1.type)) = some y1 := by
  obtain ⟨xs, n, _, rfl, hl, hlen, hf⟩ := DataW.trod_struct ht h
  match xs, hlen with
  | [y0, y1], _ => exact ⟨y0, y1, n, by simp, hl, by simpa using hf 0 f0 rfl, by simpa using hf 1 f1 rfl⟩
theorem take_one {l : List Value} {i : Nat} {v : Value} (h : (l.drop i).take 1 = [v]) : l[i]? = some v := by
  have h2 : ((l.drop i).take 1)[0]? = some v := by rw [h]; rfl
  rw [List.getElem?_take, if_pos (by omega), List.getElem?_drop] at h2
  simpa using h2
theorem hash_of_trod {H : Type} {enc : TypeId × Value → H} {W : World} {sp : Nat → Bool} {held : Bool} {n base : Nat} {l : List Value} {x : DataW H × List MemPlace} (hf : DataW.trod enc Try.prog W base sp held n 40 l = some x) :
    ∃ c : List Int, l = bv (hl 32 (hof c)) ∧ c.length = 32 ∧ Byts c := by
  obtain ⟨xs, m, _, _, hl_, hx, hel⟩ := DataW.trod_array Try.underlying40 hf
  rw [Try.cellsOf40] at hl_
  rw [Try.cellsOf5] at hel
  have each : ∀ i, i < 32 → ∃ z : Int, l[i]? = some (.int .u8 z) ∧ 0 ≤ z ∧ z < 256 := by
    intro i hi
    have h1 := hel i hi
    rw [List.getElem?_eq_getElem (by omega), Nat.mul_one] at h1
    obtain ⟨z, hz, _, hw⟩ := DataW.trod_int Try.underlying5 h1
    have hb := wf_u8 hw
    exact ⟨z, take_one hz, by omega, by omega⟩
  obtain ⟨c, hc⟩ := Go.Deep.choose_lt each
  refine ⟨hl 32 c, ?_, hl_len _ _, fun z hz => ?_⟩
  · rw [hl_of, ← hl_bytesA]
    apply List.ext_getElem?
    intro i
    by_cases hi : i < 32
    · rw [(hc i hi).1, Array.getElem?_toList, bytesA_get _ _ _ hi]
    · rw [List.getElem?_eq_none (by omega), List.getElem?_eq_none (by rw [Array.length_toList, bytesA_size]; omega)]
  · unfold hl at hz
    obtain ⟨i, hi, rfl⟩ := List.mem_map.1 hz
    exact (hc i (List.mem_range.1 hi)).2
theorem one_of {cs : List Value} {v : Value} {j : Nat} (h : (cs.drop j).take 1 = [v]) : cs[j]? = some v := take_one h
theorem op_of_trod {H : Type} {enc : TypeId × Value → H} {W : World} {sp : Nat → Bool} {held : Bool} {n base : Nat} {cs : List Value} {x : DataW H × List MemPlace} (hf : DataW.trod enc Try.prog W base sp held n 79 cs = some x) (hw : ∀ n ∈ x.1.weights Try.prog 79, n ≤ reachBytes) :
    ∃ q : OpV, cs = opL q ∧ OpOk q := by
  obtain ⟨y0, y1, y2, y3, y4, k, hx, hl0, h0, h1, h2, h3, h4⟩ := trod_struct5 Try.underlying79 hf
  rw [Try.cellsOf79] at hl0
  simp only [Try.cellsOf3, Try.cellsOf9, Try.cellsOf2, Try.cellsOf77] at h0 h1 h2 h3 h4
  obtain ⟨z0, e0, _, w0⟩ := DataW.trod_int Try.underlying3 h0
  obtain ⟨s1, e1, f1, w1⟩ := DataW.trod_string Try.underlying9 h1
  obtain ⟨s2, e2, f2, w2⟩ := DataW.trod_string Try.underlying9 h2
  obtain ⟨z3, e3, _, w3⟩ := DataW.trod_int Try.underlying2 h3
  obtain ⟨a0, a1, k2, hx4, hl4, g0, g1⟩ := trod_struct2 Try.underlying77 h4
  rw [Try.cellsOf77] at hl4
  simp only [Try.cellsOf40, Try.cellsOf3] at g0 g1
  obtain ⟨c, ec, hc1, hc2⟩ := hash_of_trod g0
  obtain ⟨z4, e4, _, w4⟩ := DataW.trod_int Try.underlying3 g1
  have b0 := wf_i64 w0
  have b3 := wf_i64 w3
  have b4 := wf_i64 w4
  have kb1 : s1.size ≤ reachBytes := hw s1.size (by
    rw [hx]
    simp only [DataW.weights, Try.underlying79]
    refine DataW.weights_mem_each (j := 1) (t := 9) rfl rfl _ ?_
    rw [f1]
    simp [DataW.weights])
  have kb2 : s2.size ≤ reachBytes := hw s2.size (by
    rw [hx]
    simp only [DataW.weights, Try.underlying79]
    refine DataW.weights_mem_each (j := 2) (t := 9) rfl rfl _ ?_
    rw [f2]
    simp [DataW.weights])
  rw [reach_is] at kb1 kb2
  refine ⟨⟨z0, s1, s2, z3, c, z4⟩, ?_, ⟨hc1, hc2, b0.1, b0.2, b3.1, b3.2, b4.1, b4.2, by simp only; omega, by simp only; omega⟩⟩
  have q0 : cs[0]? = some (.int .i64 z0) := one_of (by simpa using e0)
  have q1 : cs[1]? = some (.string s1) := one_of (by simpa using e1)
  have q2 : cs[2]? = some (.string s2) := one_of (by simpa using e2)
  have q3 : cs[3]? = some (.int .i64 z3) := one_of (by simpa using e3)
  have hd : cs.drop 4 = idL c z4 := by
    have hfull : (cs.drop 4).take 33 = cs.drop 4 := List.take_of_length_le (by rw [List.length_drop]; omega)
    rw [hfull] at ec e4
    have q4 : (cs.drop 4)[32]? = some (.int .i64 z4) := one_of (by simpa using e4)
    rw [List.drop_zero] at ec
    unfold idL
    rw [← ec, ← List.take_append_drop 32 (cs.drop 4)]
    congr 1
    · rw [List.take_append_drop]
    · apply List.ext_getElem?
      intro i
      match i with
      | 0 => rw [List.getElem?_drop]; simpa using q4
      | i + 1 => rw [List.getElem?_eq_none (by rw [List.length_drop, List.length_drop]; omega)]; simp
  unfold opL
  rw [← hd, ← List.take_append_drop 4 cs]
  congr 1
  · apply List.ext_getElem?
    intro i
    match i with
    | 0 => rw [List.getElem?_take, if_pos (by omega), q0]; rfl
    | 1 => rw [List.getElem?_take, if_pos (by omega), q1]; rfl
    | 2 => rw [List.getElem?_take, if_pos (by omega), q2]; rfl
    | 3 => rw [List.getElem?_take, if_pos (by omega), q3]; rfl
    | i + 4 => rw [List.getElem?_eq_none (by rw [List.length_take]; omega)]; simp
  · rw [List.take_append_drop]
theorem ops_of_trod {H : Type} {enc : TypeId × Value → H} {W : World} {sp : Nat → Bool} {held : Bool} {fuel base : Nat} {v : Value} {x : DataW H × List MemPlace} (hf : DataW.trod enc Try.prog W base sp held fuel 25 [v] = some x) (hw : ∀ n ∈ x.1.weights Try.prog 25, n ≤ reachBytes) :
    ∃ l : List OpV, OpsAt W v l ∧ (∀ q ∈ l, OpOk q) ∧ l.length ≤ 4398046511104 := by
  rcases open_slice Try.underlying25 hf with ⟨hcs, _⟩ | ⟨a, len, cap, m, n, D, Pl, hcs, _, hl_, hm, hz, hx, hcell⟩
  · simp at hcs
    subst hcs
    exact ⟨[], .inl ⟨none, 0, rfl, rfl⟩, by simp, by simp⟩
  · simp at hcs
    subst hcs
    have hlz : len ≤ m := by rw [hz]; split <;> omega
    have hb : len ≤ 4398046511104 := by
      have h1 := hw ((((List.range len).map D).length + ((List.range (m - len)).map fun j => D (len + j)).length) * 88) (by
        rw [hx]
        simp only [DataW.weights, Try.underlying25]
        simp [Try.bytesOf79])
      rw [reach_is] at h1
      simp only [List.length_map, List.length_range] at h1
      omega
    have hwD : ∀ i, i < len → ∀ n ∈ (D i).weights Try.prog 79, n ≤ reachBytes := fun i hi n hn => hw n (by
      rw [hx]
      simp only [DataW.weights, Try.underlying25]
      refine List.mem_cons_of_mem _ (List.mem_append_left _ (mem_weightsAll (d := D i) ?_ n hn))
      exact List.mem_map.2 ⟨i, List.mem_range.2 hi, rfl⟩)
    have each : ∀ i, i < len → ∃ q : OpV, (∀ j v, (opL q)[j]? = some v → W.cell? ((a.add (i * 37)).add j) = some v) ∧ OpOk q := by
      intro i hi
      obtain ⟨cs', h1, h2⟩ := hcell i (by omega)
      rw [Try.cellsOf79] at h1
      obtain ⟨_, hlen, hce⟩ := World.cells?_some h1
      obtain ⟨q, rfl, h3⟩ := op_of_trod h2 (hwD i hi)
      refine ⟨q, fun j v hv => ?_, h3⟩
      obtain ⟨hj, e⟩ := List.getElem?_eq_some_iff.1 hv
      rw [opL_len] at hj
      rw [hce j (by omega), ← hv]
    haveI : Inhabited OpV := ⟨zeroOp⟩
    obtain ⟨q, hq⟩ := Go.Deep.choose_lt each
    refine ⟨(List.range len).map q, ?_, ?_, by simpa using hb⟩
    · by_cases h0 : len = 0
      · subst h0
        exact .inl ⟨_, _, rfl, rfl⟩
      · have hs : a.spot = none := by
          have := (hq 0 (by omega)).1 0 _ (show (opL (q 0))[0]? = some (.int .i64 (q 0).kind) by simp [opL])
          rw [Nat.zero_mul, show a.add 0 = a from rfl] at this
          rw [show a.add 0 = a from rfl] at this
          exact World.cell?_spot this
        obtain ⟨b, off, sp⟩ := a
        obtain rfl : sp = none := hs
        refine .inr ⟨b, off, cap, by simp, by simp; omega, fun i x hxi j v hv => ?_⟩
        obtain ⟨hi, e⟩ := List.getElem?_eq_some_iff.1 hxi
        simp at hi e
        subst e
        have := (hq i hi).1 j v hv
        simp only [add_none'] at this
        exact this
    · intro z hz'
      obtain ⟨i, hi, rfl⟩ := List.mem_map.1 hz'
      exact (hq i (List.mem_range.1 hi)).2
set_option maxRecDepth 8000 in
theorem wide_lt {W : World} {r : Reach} {base : Nat} {t e : TypeId} (hu : Try.prog.underlying t = some (.slice e)) {a : Option Addr} {n c : Nat} (h : Value.okWide Try.prog W r base t (.slice a n c)) : ∀ k, (Value.slice a n c).ownBlock = some k → k < W.heap.size := by
  intro k hk
  cases a with
  | none => simp [Value.ownBlock] at hk
  | some ad =>
    simp [Value.ownBlock] at hk
    subst hk
    unfold Value.okWide at h
    simp only [hu] at h
    unfold Cell.okWide at h
    simp only [hu] at h
    unfold Cell.ok at h
    simp only [hu] at h
    obtain ⟨_, _, _, _, row, cells, hs, _⟩ := h
    apply Nat.lt_of_not_le
    intro hle
    simp [World.shape?, Array.getElem?_eq_none hle] at hs
theorem Try.cellsOf27 : Try.prog.cellsOf 27 = 4 := by kernel_rfl
theorem Try.cellsOf24 : Try.prog.cellsOf 24 = 1 := by kernel_rfl
theorem Try.cellsOf25 : Try.prog.cellsOf 25 = 1 := by kernel_rfl
theorem Try.bytesOf40 : Try.prog.bytesOf 40 = 32 := by kernel_rfl
theorem Try.types27 : Try.prog.cellTypes Try.prog.depth 27 = some [3, 3, 24, 25] := by kernel_rfl
theorem hashH_of_trod {H : Type} {enc : TypeId × Value → H} {W : World} {sp : Nat → Bool} {held : Bool} {n base : Nat} {l : List Value} {x : DataW H × List MemPlace} (hf : DataW.trod enc Try.prog W base sp held n 40 l = some x) : ∃ h : Hs, l = Sh.encH h := by
  obtain ⟨c, e, h1, h2⟩ := hash_of_trod hf
  exact ⟨hs c, by rw [e, encH_B, hB_hs c h1 h2, hl_hof c h1]⟩
theorem hs_of_trod {H : Type} {enc : TypeId × Value → H} {W : World} {sp : Nat → Bool} {held : Bool} {fuel base : Nat} {v : Value} {x : DataW H × List MemPlace} (hf : DataW.trod enc Try.prog W base sp held fuel 24 [v] = some x) (hw : ∀ n ∈ x.1.weights Try.prog 24, n ≤ reachBytes) :
    ∃ l : List Hs, Sh.HRow W v l ∧ l.length ≤ 4398046511104 := by
  rcases open_slice Try.underlying24 hf with ⟨hcs, _⟩ | ⟨a, len, cap, m, n, D, Pl, hcs, _, hl_, hm, hz, hx, hcell⟩
  · simp at hcs
    subst hcs
    exact ⟨[], .inl ⟨none, 0, rfl, rfl, fun _ => rfl⟩, by simp⟩
  · simp at hcs
    subst hcs
    have hlz : len ≤ m := by rw [hz]; split <;> omega
    have hb : len ≤ 4398046511104 := by
      have h1 := hw ((((List.range len).map D).length + ((List.range (m - len)).map fun j => D (len + j)).length) * 32) (by
        rw [hx]
        simp only [DataW.weights, Try.underlying24]
        simp [Try.bytesOf40])
      rw [reach_is] at h1
      simp only [List.length_map, List.length_range] at h1
      omega
    have each : ∀ i, i < len → ∃ q : Hs, ∀ j v, (Sh.encH q)[j]? = some v → W.cell? ((a.add (i * 32)).add j) = some v := by
      intro i hi
      obtain ⟨cs', h1, h2⟩ := hcell i (by omega)
      rw [Try.cellsOf40] at h1
      obtain ⟨_, hlen, hce⟩ := World.cells?_some h1
      obtain ⟨q, hqe⟩ := hashH_of_trod h2
      clear h2
      refine ⟨q, fun j v hv => ?_⟩
      obtain ⟨hj, e⟩ := List.getElem?_eq_some_iff.1 hv
      rw [Sh.encH_len] at hj
      rw [hce j (by omega), hqe, ← hv]
    obtain ⟨q, hq⟩ := Go.Deep.choose_lt each
    refine ⟨(List.range len).map q, ?_, by simpa using hb⟩
    by_cases h0 : len = 0
    · subst h0
      exact .inl ⟨some a, cap, rfl, rfl, fun h => by cases h⟩
    · have hs : a.spot = none := by
        have hv0 : (Sh.encH (q 0))[0]? = some (.int .u8 ((q 0).f 0)) := Sh.encH_get _ 0 (by omega)
        have := hq 0 (by omega) 0 _ hv0
        rw [Nat.zero_mul, show a.add 0 = a from rfl] at this
        rw [show a.add 0 = a from rfl] at this
        exact World.cell?_spot this
      obtain ⟨b, off, sp⟩ := a
      obtain rfl : sp = none := hs
      refine .inr ⟨b, off, cap, by simp, by simp; omega, fun j v hv => ?_⟩
      have hj : j < len * 32 := by
        have := (List.getElem?_eq_some_iff.1 hv).1
        rw [Sh.flatH_len] at this
        simpa using this
      have hi : j / 32 < ((List.range len).map q).length := by simp; omega
      have hg := Sh.flatH_get ((List.range len).map q) (j / 32) hi (j % 32) (Nat.mod_lt _ (by omega))
      rw [show j / 32 * 32 + j % 32 = j by omega, hv] at hg
      have := hq (j / 32) (by simpa using hi) (j % 32) v (by rw [hg]; simp)
      simp only [add_none'] at this
      rwa [show off + j / 32 * 32 + j % 32 = off + j by omega] at this
theorem trod_struct4 {H : Type} {enc : TypeId × Value → H} {P : Program} {w : World} {base : Nat} {spare : Nat → Bool} {held : Bool} {t : TypeId} {f0 f1 f2 f3 : Field} {fuel : Nat} {cs : List Value} {x : DataW H × List MemPlace} (ht : P.underlying t = some (.struct #[f0, f1, f2, f3])) (h : DataW.trod enc P w base spare held fuel t cs = some x) :
    ∃ y0 y1 y2 y3 n, x.1 = .agg [y0.1, y1.1, y2.1, y3.1] ∧ cs.length = P.cellsOf t ∧ DataW.trod enc P w base spare held n f0.type ((cs.drop f0.offset).take (P.cellsOf f0.type)) = some y0 ∧
      DataW.trod enc P w base spare held n f1.type ((cs.drop f1.offset).take (P.cellsOf f1.type)) = some y1 ∧ DataW.trod enc P w base spare held n f2.type ((cs.drop f2.offset).take (P.cellsOf f2.type)) = some y2 ∧ DataW.trod enc P w base spare held n f3.type ((cs.drop f3.offset).take (P.cellsOf f3.type)) = some y3 := by
  obtain ⟨xs, n, _, rfl, hl, hlen, hf⟩ := DataW.trod_struct ht h
  match xs, hlen with
  | [y0, y1, y2, y3], _ => exact ⟨y0, y1, y2, y3, n, by simp, hl, by simpa using hf 0 f0 rfl, by simpa using hf 1 f1 rfl, by simpa using hf 2 f2 rfl, by simpa using hf 3 f3 rfl⟩
theorem list4 (cs : List Value) (h : cs.length = 4) : ∃ a b c d, cs = [a, b, c, d] := by
  match cs, h with
  | [a, b, c, d], _ => exact ⟨a, b, c, d, rfl⟩
theorem node_of_trod {H : Type} {enc : TypeId × Value → H} {W : World} {sp : Nat → Bool} {held : Bool} {n base : Nat} {cs : List Value} {x : DataW H × List MemPlace} (hf : DataW.trod enc Try.prog W base sp held n 27 cs = some x) (hw : ∀ n ∈ x.1.weights Try.prog 27, n ≤ reachBytes) :
    ∃ (N : NodeV) (vp vo : Value), cs = [.int .i64 N.au, .int .i64 N.ck, vp, vo] ∧ Sh.HRow W vp N.ps ∧ N.ps.length ≤ 4398046511104 ∧ OpsAt W vo N.ops ∧ (∀ q ∈ N.ops, OpOk q) ∧ N.ops.length ≤ 4398046511104 ∧ (-9223372036854775808 ≤ N.au ∧ N.au ≤ 9223372036854775807) ∧ (-9223372036854775808 ≤ N.ck ∧ N.ck ≤ 9223372036854775807) := by
  obtain ⟨y0, y1, y2, y3, k, hx, hl, h0, h1, h2, h3⟩ := trod_struct4 Try.underlying27 hf
  rw [Try.cellsOf27] at hl
  obtain ⟨a, b, c, d, rfl⟩ := list4 cs hl
  simp only [Try.cellsOf3, Try.cellsOf24, Try.cellsOf25, List.drop_zero, List.take_succ_cons, List.take_zero, List.drop_succ_cons] at h0 h1 h2 h3
  obtain ⟨n0, e0, w0⟩ := DataW.trod_int Try.underlying3 h0
  obtain ⟨n1, e1, w1⟩ := DataW.trod_int Try.underlying3 h1
  obtain ⟨l, r1, r2⟩ := hs_of_trod h2 (fun n hn => hw n (by
    rw [hx]
    simp only [DataW.weights, Try.underlying27]
    exact DataW.weights_mem_each (j := 2) (t := 24) rfl rfl n hn))
  obtain ⟨m, q1, q2, q3⟩ := ops_of_trod h3 (fun n hn => hw n (by
    rw [hx]
    simp only [DataW.weights, Try.underlying27]
    exact DataW.weights_mem_each (j := 3) (t := 25) rfl rfl n hn))
  simp at e0 e1
  exact ⟨⟨n0, n1, l, m⟩, c, d, by rw [e0, e1], r1, r2, q1, q2, q3, wf_i64 w0.2, wf_i64 w1.2⟩
set_option maxRecDepth 8000 in
theorem cell_lt_of {W : World} {r : Reach} {base : Nat} {t e : TypeId} (hu : Try.prog.underlying t = some (.slice e)) {v : Value} (h : Cell.okWide Try.prog W r base t v) : ∀ k, v.ownBlock = some k → k < W.heap.size := by
  intro k hk
  cases v with
  | slice a n c =>
    cases a with
    | none => simp [Value.ownBlock] at hk
    | some ad =>
      simp [Value.ownBlock] at hk
      subst hk
      unfold Cell.okWide at h
      simp only [hu] at h
      unfold Cell.ok at h
      simp only [hu] at h
      obtain ⟨_, _, _, _, row, cells, hs, _⟩ := h
      apply Nat.lt_of_not_le
      intro hle
      simp [World.shape?, Array.getElem?_eq_none hle] at hs
  | _ =>
    unfold Cell.okWide at h
    simp only [hu] at h
    unfold Cell.ok at h
    simp only [hu] at h
set_option maxRecDepth 8000 in
theorem wide_node_lt {W : World} {r : Reach} {base : Nat} {a c : Int} {vp vo : Value} (h : Value.okWide Try.prog W r base 27 (.agg (ndA a c vp vo))) : ∀ k, vo.ownBlock = some k → k < W.heap.size := by
  unfold Value.okWide at h
  simp only [Try.underlying27] at h
  obtain ⟨cs, e, _, ts, h1, _, h2⟩ := h
  injection e with e
  subst e
  rw [Try.types27] at h1
  injection h1 with h1
  subst h1
  obtain ⟨u, h3, h4⟩ := h2 3 vo rfl
  simp at h3
  subst h3
  exact cell_lt_of Try.underlying25 h4
end Go.Proofs.Ytgpgnldcdimmbaa
