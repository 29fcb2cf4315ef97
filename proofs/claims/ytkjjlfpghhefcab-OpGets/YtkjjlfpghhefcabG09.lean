import Derived.Test.YtkjjlfpghhefcabG08
import Derived.Test.YtkjjlfpghhefcabG05
import Derived.Deep.RegionHeld3
import Derived.ProofKit
import Derived.OpenShut
import Derived.ShutString
import Derived.ChangeOld
import Derived.Below
import Derived.SizedLaws
import Derived.Deep.Slices
import Derived.Deep.Strs
namespace Go.Proofs.Ytkjjlfpghhefcab
open Go.RowKit
set_option linter.unusedSimpArgs false
set_option linter.unusedVariables false

theorem neqE (a b : Int) (w : World) : (binOp .neq 27 (.agg (erA a b)) (.agg (erA a b))).run Try.prog w = .ok (.bool false) w := eqErr a b w
theorem ri_built (va : Option Addr) (n vc : Nat) : Try.prog.built 29 [(0, .slice va n vc)] = some #[.slice va n vc, .int .i64 0, .int .i64 0, .int .i64 0] := by kernel_rfl
set_option maxRecDepth 8000 in
set_option maxHeartbeats 4000000 in
theorem gets_end {u1 u2 u3 u4 u7 u8 u9 u10 u11 u12 u13 u14 u15 u16 u17 u18 u19 u20 u21 u22 u23 u24 u25 u26 u27 u28 u29 u30 u31 u32 u33 u34 u35 u36 u37 u38 u39 u40 u41 u42 u43 u44 u45 u46 u47 u48 u49 u50 u51 u52 u53 u54 u55 u56 u57 u58 u59 u60 u61 u62 u63 u64 u65 u66 u67 u68 u69 u70 u71 u72 u73 u74 u75 u76 u77 u78 u79 u80 u81 : Value} (va : Option Addr) (vc : Nat) (l : List Int) (x p a : Nat) (st : ByteArray) (w w1 : World) (hr : RowAt w (.slice va l.length vc) l) (hB : Byts l) (hlb : l.length ≤ 140737488351232) (hlt : ∀ k, (Value.slice va l.length vc).ownBlock = some k → k < w.heap.size) (hst : st = strOfNums l)
    (hI : InAt w1 p st a none) (hF : RfAt w1 x (.slice va l.length vc) a 0 0) (hb : Below w.heap.size w w1) (hxp : w.heap.size ≤ x ∧ w.heap.size ≤ p) (ha : a ≤ l.length) :
    Code.wp Try.prog (cS (cS (cS (cS (cS (Try.f3.body.getD Code.skip)))))) (bodyPost Try.prog Try.f3 fun e w' => e = .returned (.bool true) ∧ Below w.heap.size w w') { tmps := #[.slice va l.length vc, u1, u2, u3, u4, .pointer (some ⟨p, 0, none⟩), .pointer (some ⟨x, 0, none⟩), u7, u8, u9, u10, u11, u12, u13, u14, u15, u16, u17, u18, u19, u20, u21, u22, u23, u24, u25, u26, u27, u28, u29, u30, u31, u32, u33, u34, u35, u36, u37, u38, u39, u40, u41, u42, u43, u44, u45, u46, u47, u48, u49, u50, u51, u52, u53, u54, u55, u56, u57, u58, u59, u60, u61, u62, u63, u64, u65, u66, u67, u68, u69, u70, u71, u72, u73, u74, u75, u76, u77, u78, u79, u80, u81], defers := [] } w1 := by
  have HRow := Keep.mk hr
  have HBy := Keep.mk hB
  have Hlb : Keep (l.length ≤ 140737488355328) := ⟨by omega⟩
  have Hlt := Keep.mk hlt
  have Hlst : Keep (lst st = l) := ⟨by rw [hst]; exact lst_nums hB⟩
  have Hsz : Keep (st.size = l.length) := ⟨by rw [hst]; exact str_size hB⟩
  have HS : Keep (st.size ≤ 140737488355328) := ⟨by rw [Hsz.out]; omega⟩
  have HI := Keep.mk hI
  have HF := Keep.mk hF
  have HFl := Keep.mk (Blk.lt hF)
  have B1 := Keep.mk hb
  have Hxp := Keep.mk hxp
  have Ha := Keep.mk ha
  obtain ⟨R, hR⟩ : ∃ R, R = getL l a := ⟨_, rfl⟩
  have HRt := Keep.mk hR
  clear hr hB hlb hlt hst hI hF hb hxp ha hR
  obtain ⟨e5, q5, m5⟩ := R
  refine wp_seq_k fun K1 hK1 => ?_
  refine wp_region_list (WL.out ?_)
  refine WL.val (by kernel_rfl) (.pointer (some ⟨p, 0, none⟩)) (by go_simp) ?_
  simp only [Act.put, List.setIfInBounds_toArray, List.set_cons_zero, List.set_cons_succ]
  refine WL.callF (by kernel_rfl) 10 _ _ rfl Try.in10 #[ptr p] (by simp [Act.eval]) ?_
  refine (get_any p st a w1 HI.out HS.out).mono ?_
  rintro e w2 h2
  rw [Hlst.out, ← HRt.out] at h2
  obtain ⟨v, er, rfl, hg, hc⟩ := h2
  refine ⟨_, rfl, ?_⟩
  have HF2 : Keep (RfAt w2 x (.slice va l.length vc) a 0 0) := ⟨hg.blk HF.out (blk_ne HF.out HI.out.blk (by decide))⟩
  have B2 : Keep (Below w.heap.size w w2) := ⟨B1.out.trans (hg.to_below (fun k hk e => by have := Hxp.out; omega) B1.out.size)⟩
  clear hg HF
  dsimp only at hc
  rcases hc with ⟨e1, rfl, h4, h5, h6, h7, h8⟩ | ⟨e1, rfl, q3, hq3, rfl, hbad⟩
  · subst e1
    have HO := Keep.mk h4
    have HI2 := Keep.mk h6
    have H8 := Keep.mk h8
    have Hnx : Keep (v.ownBlock ≠ some x) := ⟨fun e => by have := h5 x e; have := Blk.lt HF2.out; have := HFl.out; omega⟩
    clear h4 h5 h6 h7 h8
    obtain ⟨ga, gc, rfl⟩ := HO.out.sl
    simp only [Act.put, List.setIfInBounds_toArray, List.set_cons_zero, List.set_cons_succ]
    refine WL.val (by kernel_rfl) (.tuple #[.slice ga m5.length gc, .nilIface]) (by go_simp) ?_
    simp only [Act.put, List.setIfInBounds_toArray, List.set_cons_zero, List.set_cons_succ]
    refine WL.val (by kernel_rfl) (.slice ga m5.length gc) (by go_simp) ?_
    simp only [Act.put, List.setIfInBounds_toArray, List.set_cons_zero, List.set_cons_succ]
    refine WL.val (by kernel_rfl) (.nilIface) (by go_simp) ?_
    simp only [Act.put, List.setIfInBounds_toArray, List.set_cons_zero, List.set_cons_succ]
    refine WL.val (by kernel_rfl) (.slice ga m5.length gc) (by go_simp) ?_
    simp only [Act.put, List.setIfInBounds_toArray, List.set_cons_zero, List.set_cons_succ]
    refine WL.val (by kernel_rfl) (.nilIface) (by go_simp) ?_
    simp only [Act.put, List.setIfInBounds_toArray, List.set_cons_zero, List.set_cons_succ]
    refine WL.nil ?_
    refine hK1 _ _ ?_
    refine wp_seq_k fun K2 hK2 => ?_
    refine wp_region_list (WL.out ?_)
    refine WL.val (by kernel_rfl) (.pointer (some ⟨x, 0, none⟩)) (by go_simp) ?_
    simp only [Act.put, List.setIfInBounds_toArray, List.set_cons_zero, List.set_cons_succ]
    refine WL.callF (by kernel_rfl) 11 _ _ rfl Try.in11 #[ptr x] (by simp [Act.eval]) ?_
    refine (rget_any x (.slice va l.length vc) l a w2 HF2.out (fun wx hx => (HRow.out.below B2.out).grown hx (fun k hk _ e => by have := Hlt.out k hk; have := Hxp.out; omega)) Ha.out Hlb.out HBy.out).mono ?_
    rintro e w3 h3
    rw [← HRt.out] at h3
    obtain ⟨v2, b2, rfl, hE2, hf2, hg2, hok2, hbad2⟩ := h3
    refine ⟨_, rfl, ?_⟩
    dsimp only at *
    have B3 : Keep (Below w.heap.size w w3) := ⟨B2.out.trans (hg2.to_below (fun k hk e => by have := Hxp.out; omega) B2.out.size)⟩
    obtain rfl : b2 = 0 := by rcases hE2 with ⟨_, h⟩ | ⟨h, _⟩; exact h; exact absurd rfl h
    have HO2 := Keep.mk (hok2 rfl).1
    have HF3 := Keep.mk hf2
    have HO3 := Keep.mk (HO.out.grown hg2 (fun k hk e => Hnx.out (by rw [hk, e])))
    have HI3 : Keep (InAt w3 p st q5 none) := ⟨hg2.blk HI2.out.blk (blk_ne HI2.out.blk HF2.out (by decide)), HI2.out.le⟩
    obtain ⟨gd, ge, rfl⟩ := HO2.out.sl
    clear hE2 hf2 hok2 hbad2 hg2 HO HI2
    simp only [Act.put, List.setIfInBounds_toArray, List.set_cons_zero, List.set_cons_succ]
    refine WL.val (by kernel_rfl) (.tuple #[.slice gd m5.length ge, .agg (erA 0 0)]) (by go_simp) ?_
    simp only [Act.put, List.setIfInBounds_toArray, List.set_cons_zero, List.set_cons_succ]
    refine WL.val (by kernel_rfl) (.slice gd m5.length ge) (by go_simp) ?_
    simp only [Act.put, List.setIfInBounds_toArray, List.set_cons_zero, List.set_cons_succ]
    refine WL.val (by kernel_rfl) (.agg (erA 0 0)) (by go_simp) ?_
    simp only [Act.put, List.setIfInBounds_toArray, List.set_cons_zero, List.set_cons_succ]
    refine WL.new (by kernel_rfl) 27 rfl _ Try.new27E ?_
    simp only [Act.put, List.setIfInBounds_toArray, List.set_cons_zero, List.set_cons_succ]
    refine WL.val (by kernel_rfl) (.slice gd m5.length ge) (by go_simp) ?_
    simp only [Act.put, List.setIfInBounds_toArray, List.set_cons_zero, List.set_cons_succ]
    refine WL.storeR (by kernel_rfl) 27 (.tmp 10) (.tmp 43) rfl w3.heap.size (erA 0 0) rfl rfl 27 (erA 0 0) (Blk.new w3 27 _) (Try.size27B _ _) (erA_sizes _ _ _ _) (erA_one _ _) ?_
    have bq := below_setRow (below_new w3 (.cells (erA 0 0) 27)) (Nat.le_refl w3.heap.size) (erA 0 0)
    have Z10 := Keep.mk ((Blk.new w3 27 (erA 0 0)).setRow (erA 0 0))
    generalize (w3.alloc (.cells (erA 0 0) 27)).setRow w3.heap.size (erA 0 0) = w4 at *
    have B4 : Keep (Below w.heap.size w w4) := ⟨B3.out.trans (bq.mono B3.out.size)⟩
    have HO24 := Keep.mk (HO2.out.below bq)
    have HO4 := Keep.mk (HO3.out.below bq)
    have HF4 : Keep (RfAt w4 x (.slice va l.length vc) q5 0 0) := ⟨Blk.below HF3.out bq (Blk.lt HF3.out)⟩
    have HI4 : Keep (InAt w4 p st q5 none) := ⟨HI3.out.blk.below bq HI3.out.blk.lt, HI3.out.le⟩
    clear HO2 HO3 HF3 HI3
    clear bq
    generalize w3.heap.size = g10 at *
    skip
    simp only [Act.put]
    refine WL.nil ?_
    refine hK2 _ _ ?_
    refine wp_seq_k fun K3 hK3 => ?_
    refine wp_region_list (WL.out ?_)
    refine WL.val (by kernel_rfl) (.nilIface) (by go_simp) ?_
    simp only [Act.put, List.setIfInBounds_toArray, List.set_cons_zero, List.set_cons_succ]
    refine WL.callF (by kernel_rfl) 12 _ _ rfl Try.in12 #[.nilIface] (by simp [Act.eval]) ?_
    refine (placed_nil w4).mono ?_
    rintro e w5 ⟨rfl, hb5⟩
    refine ⟨_, rfl, ?_⟩
    have Z105 := Keep.mk (Z10.out.below hb5 Z10.out.lt)
    have B5 : Keep (Below w.heap.size w w5) := ⟨B4.out.trans (hb5.mono B4.out.size)⟩
    have HO25 := Keep.mk (HO24.out.below hb5)
    have HO5 := Keep.mk (HO4.out.below hb5)
    have HF5 : Keep (RfAt w5 x (.slice va l.length vc) q5 0 0) := ⟨Blk.below HF4.out hb5 (Blk.lt HF4.out)⟩
    have HI5 : Keep (InAt w5 p st q5 none) := ⟨HI4.out.blk.below hb5 HI4.out.blk.lt, HI4.out.le⟩
    clear HO24 HO4 HF4 HI4
    clear hb5 Z10
    simp only [Act.put, List.setIfInBounds_toArray, List.set_cons_zero, List.set_cons_succ]
    refine WL.val (by kernel_rfl) (.tuple #[.agg (erA 0 0), .bool true]) (by go_simp) ?_
    simp only [Act.put, List.setIfInBounds_toArray, List.set_cons_zero, List.set_cons_succ]
    refine WL.val (by kernel_rfl) (.agg (erA 0 0)) (by go_simp) ?_
    simp only [Act.put, List.setIfInBounds_toArray, List.set_cons_zero, List.set_cons_succ]
    refine WL.val (by kernel_rfl) (.bool true) (by go_simp) ?_
    simp only [Act.put, List.setIfInBounds_toArray, List.set_cons_zero, List.set_cons_succ]
    refine WL.new (by kernel_rfl) 27 rfl _ Try.new27E ?_
    simp only [Act.put, List.setIfInBounds_toArray, List.set_cons_zero, List.set_cons_succ]
    refine WL.storeR (by kernel_rfl) 27 (.tmp 11) (.tmp 47) rfl w5.heap.size (erA 0 0) rfl rfl 27 (erA 0 0) (Blk.new w5 27 _) (Try.size27B _ _) (erA_sizes _ _ _ _) (erA_one _ _) ?_
    have bq := below_setRow (below_new w5 (.cells (erA 0 0) 27)) (Nat.le_refl w5.heap.size) (erA 0 0)
    have Z11 := Keep.mk ((Blk.new w5 27 (erA 0 0)).setRow (erA 0 0))
    generalize (w5.alloc (.cells (erA 0 0) 27)).setRow w5.heap.size (erA 0 0) = w6 at *
    have Z106 := Keep.mk (Z105.out.below bq Z105.out.lt)
    have B6 : Keep (Below w.heap.size w w6) := ⟨B5.out.trans (bq.mono B5.out.size)⟩
    have HO26 := Keep.mk (HO25.out.below bq)
    have HO6 := Keep.mk (HO5.out.below bq)
    have HF6 : Keep (RfAt w6 x (.slice va l.length vc) q5 0 0) := ⟨Blk.below HF5.out bq (Blk.lt HF5.out)⟩
    have HI6 : Keep (InAt w6 p st q5 none) := ⟨HI5.out.blk.below bq HI5.out.blk.lt, HI5.out.le⟩
    clear HO25 HO5 HF5 HI5
    clear Z105
    clear bq
    generalize w5.heap.size = g11 at *
    skip
    simp only [Act.put]
    refine WL.val (by kernel_rfl) (.bool true) (by go_simp) ?_
    simp only [Act.put, List.setIfInBounds_toArray, List.set_cons_zero, List.set_cons_succ]
    refine WL.nil ?_
    refine hK3 _ _ ?_
    refine wp_seq_k fun K4 hK4 => ?_
    refine wp_seq_k fun K5 hK5 => ?_
    refine wp_region_list (WL.out ?_)
    refine WL.val (by kernel_rfl) (.bool true) (by go_simp) ?_
    simp only [Act.put, List.setIfInBounds_toArray, List.set_cons_zero, List.set_cons_succ]
    refine WL.val (by kernel_rfl) (.bool false) (by go_simp) ?_
    simp only [Act.put, List.setIfInBounds_toArray, List.set_cons_zero, List.set_cons_succ]
    refine WL.val (by kernel_rfl) (.bool false) (by go_simp) ?_
    simp only [Act.put, List.setIfInBounds_toArray, List.set_cons_zero, List.set_cons_succ]
    refine WL.row (by kernel_rfl) 27 (.tmp 11) rfl g11 rfl 27 (erA 0 0) _ Z11.out Try.underlying27 rfl (Try.size27B _ _) ?_
    simp only [Act.put, List.setIfInBounds_toArray, List.set_cons_zero, List.set_cons_succ]
    refine WL.row (by kernel_rfl) 27 (.tmp 10) rfl g10 rfl 27 (erA 0 0) _ Z106.out Try.underlying27 rfl (Try.size27B _ _) ?_
    simp only [Act.put, List.setIfInBounds_toArray, List.set_cons_zero, List.set_cons_succ]
    have hq := neqE (0) 0 w6
    refine WL.val (by kernel_rfl) (.bool false) (by clear hq; simp only [erA]; go_simp) ?_
    clear hq
    simp only [Act.put, List.setIfInBounds_toArray, List.set_cons_zero, List.set_cons_succ]
    refine WL.val (by kernel_rfl) (.bool false) (by go_simp) ?_
    simp only [Act.put, List.setIfInBounds_toArray, List.set_cons_zero, List.set_cons_succ]
    refine WL.val (by kernel_rfl) (.bool false) (by go_simp) ?_
    simp only [Act.put, List.setIfInBounds_toArray, List.set_cons_zero, List.set_cons_succ]
    refine WL.val (by kernel_rfl) (.slice ga m5.length gc) (by go_simp) ?_
    simp only [Act.put, List.setIfInBounds_toArray, List.set_cons_zero, List.set_cons_succ]
    refine WL.val (by kernel_rfl) (.slice gd m5.length ge) (by go_simp) ?_
    simp only [Act.put, List.setIfInBounds_toArray, List.set_cons_zero, List.set_cons_succ]
    refine WL.callF (by kernel_rfl) 13 _ _ rfl Try.in13 #[.slice ga m5.length gc, .slice gd m5.length ge] (by simp [Act.eval]) ?_
    refine (sameList_any _ _ m5 w6 HO6.out.ops HO26.out.ops (by have := H8.out; omega)).mono ?_
    rintro e w7 ⟨rfl, hb7⟩
    refine ⟨_, rfl, ?_⟩
    have B7 : Keep (Below w.heap.size w w7) := ⟨B6.out.trans (hb7.mono B6.out.size)⟩
    have Z107 := Keep.mk (Z106.out.below hb7 Z106.out.lt)
    have HF7 : Keep (RfAt w7 x (.slice va l.length vc) q5 0 0) := ⟨Blk.below HF6.out hb7 (Blk.lt HF6.out)⟩
    have HI7 : Keep (InAt w7 p st q5 none) := ⟨HI6.out.blk.below hb7 HI6.out.blk.lt, HI6.out.le⟩
    clear hb7
    simp only [Act.put, List.setIfInBounds_toArray, List.set_cons_zero, List.set_cons_succ]
    refine WL.val (by kernel_rfl) (.bool false) (by go_simp) ?_
    simp only [Act.put, List.setIfInBounds_toArray, List.set_cons_zero, List.set_cons_succ]
    refine WL.val (by kernel_rfl) (.bool false) (by go_simp) ?_
    simp only [Act.put, List.setIfInBounds_toArray, List.set_cons_zero, List.set_cons_succ]
    refine WL.nil ?_
    refine hK5 _ _ ?_
    refine wp_cond_false rfl ?_
    refine wp_skip ?_
    refine hK4 _ _ ?_
    refine wp_seq_k fun K6 hK6 => ?_
    refine wp_seq_k fun K7 hK7 => ?_
    have hD0 : Below w7.heap.size w7 w7.drew := (Below.refl _ _).drew
    have HS0 : Keep (∀ wx, Below w7.heap.size w7 wx → (wx.cell? ⟨g10, 0, none⟩ = some (.int .i64 0) ∧ wx.cell? ⟨x, 1, none⟩ = some (.int .i64 (q5 : Int)))) := ⟨fun wx hx => ⟨(Z107.out.below hx Z107.out.lt).c 0 (erA_0 _ _), RfAt.c1 (Blk.below HF7.out hx (Blk.lt HF7.out))⟩⟩
    have HI8 : Keep (∀ wx, Below w7.heap.size w7 wx → InAt wx p st q5 none) := ⟨fun wx hx => ⟨HI7.out.blk.below hx HI7.out.blk.lt, HI7.out.le⟩⟩
    have HF8 : Keep (∀ wx, Below w7.heap.size w7 wx → RfAt wx x (.slice va l.length vc) q5 0 0) := ⟨fun wx hx => Blk.below HF7.out hx (Blk.lt HF7.out)⟩
    have Hq5 : Keep (q5 ≤ l.length) := ⟨by have := HI7.out.le; rwa [Hsz.out] at this⟩
    refine wp_region_held_drew (S := fun wx => wx.cell? ⟨g10, 0, none⟩ = some (.int .i64 0) ∧ wx.cell? ⟨x, 1, none⟩ = some (.int .i64 (q5 : Int))) (by kernel_rfl) (HS0.out _ hD0) (fun hHeld => ?_)
    refine wpAnyH_take (i := 0) (oi := ⟨some 62, Op.fieldAddr 27 (Operand.tmp 10) 0, 0, _, _, none⟩) (v := .pointer (some ⟨g10, 0, none⟩)) rfl (by kernel_rfl) (by kernel_rfl) (by kernel_rfl) (fun _ _ _ h => h) (Or.inl ⟨by rfl, fun w hS => by obtain ⟨hs1, hs2⟩ := hS; go_simp⟩) hHeld ?_
    simp only [Act.put, List.setIfInBounds_toArray, List.set_cons_zero, List.set_cons_succ]
    refine wpAnyH_take (i := 1) (oi := ⟨some 63, Op.load 3 (Operand.tmp 62), 3, _, _, none⟩) (v := .int .i64 0) rfl (by kernel_rfl) (by kernel_rfl) (by kernel_rfl) (fun _ _ _ h => h) (Or.inl ⟨by rfl, fun w hS => by obtain ⟨hs1, hs2⟩ := hS; go_simp⟩) hHeld ?_
    simp only [Act.put, List.setIfInBounds_toArray, List.set_cons_zero, List.set_cons_succ]
    refine wpAnyH_take (i := 2) (oi := ⟨some 64, Op.binOp BinOp.eql 3 (Operand.tmp 63) (Operand.const (Value.int IntKind.i64 0)) 3, 4, _, _, none⟩) (v := .bool true) rfl (by kernel_rfl) (by kernel_rfl) (by kernel_rfl) (fun _ _ _ h => h) (Or.inl ⟨by rfl, fun w hS => by obtain ⟨hs1, hs2⟩ := hS; go_simp⟩) hHeld ?_
    simp only [Act.put, List.setIfInBounds_toArray, List.set_cons_zero, List.set_cons_succ]
    refine wpAnyH_take (i := 3) (oi := ⟨some 65, Op.move (Operand.tmp 64), 4, _, _, none⟩) (v := .bool true) rfl (by kernel_rfl) (by kernel_rfl) (by kernel_rfl) (fun _ _ _ h => h) (Or.inl ⟨by rfl, fun w hS => by obtain ⟨hs1, hs2⟩ := hS; go_simp⟩) hHeld ?_
    simp only [Act.put, List.setIfInBounds_toArray, List.set_cons_zero, List.set_cons_succ]
    refine wpAnyH_take (i := 4) (oi := ⟨some 66, Op.move (Operand.tmp 5), 23, _, _, some (3, true)⟩) (v := .pointer (some ⟨p, 0, none⟩)) rfl (by kernel_rfl) (by kernel_rfl) (by kernel_rfl) (fun _ _ _ h => h) (Or.inl ⟨by rfl, fun w hS => by obtain ⟨hs1, hs2⟩ := hS; go_simp⟩) hHeld ?_
    simp only [Act.put, List.setIfInBounds_toArray, List.set_cons_zero, List.set_cons_succ]
    refine wpAnyH_take (i := 6) (oi := ⟨some 68, Op.move (Operand.tmp 6), 25, _, _, some (3, true)⟩) (v := .pointer (some ⟨x, 0, none⟩)) rfl (by kernel_rfl) (by kernel_rfl) (by kernel_rfl) (fun _ _ _ h => h) (Or.inl ⟨by rfl, fun w hS => by obtain ⟨hs1, hs2⟩ := hS; go_simp⟩) hHeld ?_
    simp only [Act.put, List.setIfInBounds_toArray, List.set_cons_zero, List.set_cons_succ]
    refine wpAnyH_take (i := 7) (oi := ⟨some 69, Op.nilCheck (Operand.tmp 68), 0, _, _, some (3, true)⟩) (v := .pointer (some ⟨x, 0, none⟩)) rfl (by kernel_rfl) (by kernel_rfl) (by kernel_rfl) (fun _ _ _ h => h) (Or.inl ⟨by rfl, fun w hS => by obtain ⟨hs1, hs2⟩ := hS; go_simp⟩) hHeld ?_
    simp only [Act.put, List.setIfInBounds_toArray, List.set_cons_zero, List.set_cons_succ]
    refine wpAnyH_take (i := 8) (oi := ⟨some 70, Op.fieldAddr 29 (Operand.tmp 69) 1, 0, _, _, some (3, true)⟩) (v := .pointer (some ⟨x, 1, none⟩)) rfl (by kernel_rfl) (by kernel_rfl) (by kernel_rfl) (fun _ _ _ h => h) (Or.inl ⟨by rfl, fun w hS => by obtain ⟨hs1, hs2⟩ := hS; go_simp⟩) hHeld ?_
    simp only [Act.put, List.setIfInBounds_toArray, List.set_cons_zero, List.set_cons_succ]
    refine wpAnyH_take (i := 9) (oi := ⟨some 71, Op.load 3 (Operand.tmp 70), 3, _, _, some (3, true)⟩) (v := .int .i64 (q5 : Int)) rfl (by kernel_rfl) (by kernel_rfl) (by kernel_rfl) (fun _ _ _ h => h) (Or.inl ⟨by rfl, fun w hS => by obtain ⟨hs1, hs2⟩ := hS; go_simp⟩) hHeld ?_
    simp only [Act.put, List.setIfInBounds_toArray, List.set_cons_zero, List.set_cons_succ]
    refine wpAnyH_ready (rs := [5]) (by kernel_rfl) (by simp) ?_
    refine AllReadyH.cons (o := ⟨some 67, Op.call { callee := Callee.value (Operand.func 14), args := #[Operand.tmp 66], argTypes := #[23] }, 3, _, _, some (3, true)⟩) rfl (fun K hK => ?_) AllReadyH.nil
    rw [if_pos (by rfl)]
    refine wp_callF 14 _ _ rfl Try.in14 #[ptr p] (by simp [Act.eval]) (fun vz wz => vz = .int .i64 (q5 : Int) ∧ Below w7.heap.size w7 wz) ?_ ?_
    · refine (iat_any p st q5 none w7.drew (HI8.out _ hD0)).mono ?_
      rintro e wz ⟨rfl, h⟩
      exact ⟨_, rfl, rfl, by rw [h]; exact hD0⟩
    rintro vz w8 ⟨rfl, h8⟩
    have HB8 := Keep.mk h8
    clear h8
    refine hK.out _ _ (HS0.out _ HB8.out) fun hH2 => ?_
    clear hK
    simp only [Act.put, List.setIfInBounds_toArray, List.set_cons_zero, List.set_cons_succ]
    refine wpAnyH_take (i := 10) (oi := ⟨some 72, Op.binOp BinOp.neq 3 (Operand.tmp 67) (Operand.tmp 71) 3, 4, _, _, some (3, true)⟩) (v := .bool false) rfl (by kernel_rfl) (by kernel_rfl) (by kernel_rfl) (fun _ _ _ h => h) (Or.inl ⟨by rfl, fun w hS => by obtain ⟨hs1, hs2⟩ := hS; go_simp⟩) hH2 ?_
    simp only [Act.put, List.setIfInBounds_toArray, List.set_cons_zero, List.set_cons_succ]
    refine wpAnyH_take (i := 11) (oi := ⟨some 73, Op.move (Operand.tmp 72), 4, _, _, some (3, true)⟩) (v := .bool false) rfl (by kernel_rfl) (by kernel_rfl) (by kernel_rfl) (fun _ _ _ h => h) (Or.inl ⟨by rfl, fun w hS => by obtain ⟨hs1, hs2⟩ := hS; go_simp⟩) hH2 ?_
    simp only [Act.put, List.setIfInBounds_toArray, List.set_cons_zero, List.set_cons_succ]
    refine wpAnyH_take (i := 12) (oi := ⟨some 74, Op.move (Operand.tmp 5), 23, _, _, some (11, false)⟩) (v := .pointer (some ⟨p, 0, none⟩)) rfl (by kernel_rfl) (by kernel_rfl) (by kernel_rfl) (fun _ _ _ h => h) (Or.inl ⟨by rfl, fun w hS => by obtain ⟨hs1, hs2⟩ := hS; go_simp⟩) hH2 ?_
    simp only [Act.put, List.setIfInBounds_toArray, List.set_cons_zero, List.set_cons_succ]
    refine wpAnyH_take (i := 14) (oi := ⟨some 76, Op.move (Operand.tmp 6), 25, _, _, some (11, false)⟩) (v := .pointer (some ⟨x, 0, none⟩)) rfl (by kernel_rfl) (by kernel_rfl) (by kernel_rfl) (fun _ _ _ h => h) (Or.inl ⟨by rfl, fun w hS => by obtain ⟨hs1, hs2⟩ := hS; go_simp⟩) hH2 ?_
    simp only [Act.put, List.setIfInBounds_toArray, List.set_cons_zero, List.set_cons_succ]
    refine wpAnyH_ready (rs := [13]) (by kernel_rfl) (by simp) ?_
    refine AllReadyH.cons (o := ⟨some 75, Op.call { callee := Callee.value (Operand.func 15), args := #[Operand.tmp 74], argTypes := #[23] }, 3, _, _, some (11, false)⟩) rfl (fun K hK => ?_) AllReadyH.nil
    rw [if_pos (by rfl)]
    refine wp_callF 15 _ _ rfl Try.in15 #[ptr p] (by simp [Act.eval]) (fun vz wz => vz = .int .i64 ((l.length : Int) - (q5 : Int)) ∧ Below w7.heap.size w7 wz) ?_ ?_
    · refine (ileft_any p st q5 none w8 (HI8.out _ HB8.out) HS.out).mono ?_
      rintro e wz ⟨rfl, q9, h⟩
      exact ⟨_, rfl, by rw [Hsz.out], by rw [h]; exact HB8.out.trans ((below_drewN w8 q9).mono HB8.out.size)⟩
    rintro vz w9 ⟨rfl, h8⟩
    have HB_w9 := Keep.mk h8
    clear h8
    refine hK.out _ _ (HS0.out _ HB_w9.out) fun hH3 => ?_
    clear hK
    simp only [Act.put, List.setIfInBounds_toArray, List.set_cons_zero, List.set_cons_succ]
    refine wpAnyH_ready (rs := [15]) (by kernel_rfl) (by simp) ?_
    refine AllReadyH.cons (o := ⟨some 77, Op.call { callee := Callee.value (Operand.func 16), args := #[Operand.tmp 76], argTypes := #[25] }, 3, _, _, some (11, false)⟩) rfl (fun K hK => ?_) AllReadyH.nil
    rw [if_pos (by rfl)]
    refine wp_callF 16 _ _ rfl Try.in16 #[ptr x] (by simp [Act.eval]) (fun vz wz => vz = .int .i64 ((l.length : Int) - (q5 : Int)) ∧ Below w7.heap.size w7 wz) ?_ ?_
    · refine (xleft_any x va l.length vc q5 0 0 w9 (HF8.out _ HB_w9.out) Hq5.out Hlb.out).mono ?_
      rintro e wz ⟨rfl, q9, h⟩
      exact ⟨_, rfl, rfl, by rw [h]; exact HB_w9.out.trans ((below_drewN w9 q9).mono HB_w9.out.size)⟩
    rintro vz w10 ⟨rfl, h8⟩
    have HB_w10 := Keep.mk h8
    clear h8
    refine hK.out _ _ (HS0.out _ HB_w10.out) fun hH4 => ?_
    clear hK
    simp only [Act.put, List.setIfInBounds_toArray, List.set_cons_zero, List.set_cons_succ]
    refine wpAnyH_take (i := 16) (oi := ⟨some 78, Op.binOp BinOp.neq 3 (Operand.tmp 75) (Operand.tmp 77) 3, 4, _, _, some (11, false)⟩) (v := .bool false) rfl (by kernel_rfl) (by kernel_rfl) (by kernel_rfl) (fun _ _ _ h => h) (Or.inl ⟨by rfl, fun w hS => by obtain ⟨hs1, hs2⟩ := hS; go_simp⟩) hH4 ?_
    simp only [Act.put, List.setIfInBounds_toArray, List.set_cons_zero, List.set_cons_succ]
    refine wpAnyH_take (i := 17) (oi := ⟨some 79, Op.pick (Operand.tmp 73) (Operand.const (Value.bool true)) (Operand.tmp 78), 4, _, _, some (3, true)⟩) (v := .bool false) rfl (by kernel_rfl) (by kernel_rfl) (by kernel_rfl) (fun _ _ _ h => h) (Or.inl ⟨by rfl, fun w hS => by obtain ⟨hs1, hs2⟩ := hS; go_simp⟩) hH4 ?_
    simp only [Act.put, List.setIfInBounds_toArray, List.set_cons_zero, List.set_cons_succ]
    refine wpAnyH_take (i := 18) (oi := ⟨some 80, Op.pick (Operand.tmp 65) (Operand.tmp 79) (Operand.const (Value.bool false)), 4, _, _, none⟩) (v := .bool false) rfl (by kernel_rfl) (by kernel_rfl) (by kernel_rfl) (fun _ _ _ h => h) (Or.inl ⟨by rfl, fun w hS => by obtain ⟨hs1, hs2⟩ := hS; go_simp⟩) hH4 ?_
    simp only [Act.put, List.setIfInBounds_toArray, List.set_cons_zero, List.set_cons_succ]
    refine wpAnyH_done (by kernel_rfl) ?_ _
    refine hK7 _ _ ?_
    refine wp_cond_false rfl ?_
    refine wp_skip ?_
    refine hK6 _ _ ?_
    refine wp_seq_k fun K8 hK8 => ?_
    refine wp_region_list (WL.out ?_)
    refine WL.callF (by kernel_rfl) 17 _ _ rfl Try.in17 #[] (by simp) ?_
    refine (fixed_any w10).mono ?_
    rintro e w12 ⟨rfl, hb12⟩
    refine ⟨_, rfl, ?_⟩
    have B12 : Keep (Below w.heap.size w w12) := ⟨B7.out.trans ((HB_w10.out.trans (hb12.mono HB_w10.out.size)).mono B7.out.size)⟩
    simp only [Act.put, List.setIfInBounds_toArray, List.set_cons_zero, List.set_cons_succ]
    refine WL.val (by kernel_rfl) (.bool true) (by go_simp) ?_
    simp only [Act.put, List.setIfInBounds_toArray, List.set_cons_zero, List.set_cons_succ]
    refine WL.nil ?_
    refine hK8 _ _ ?_
    refine wp_ret ?_
    go_ret
    exact ⟨rfl, B12.out⟩
  · have Hne := Keep.mk e1
    have HBd := Keep.mk hbad
    clear e1 hbad
    unfold err
    simp only [Act.put, List.setIfInBounds_toArray, List.set_cons_zero, List.set_cons_succ]
    refine WL.val (by kernel_rfl) (.tuple #[.slice none 0 0, .iface 66 (ptr q3)]) (by go_simp) ?_
    simp only [Act.put, List.setIfInBounds_toArray, List.set_cons_zero, List.set_cons_succ]
    refine WL.val (by kernel_rfl) (.slice none 0 0) (by go_simp) ?_
    simp only [Act.put, List.setIfInBounds_toArray, List.set_cons_zero, List.set_cons_succ]
    refine WL.val (by kernel_rfl) (.iface 66 (ptr q3)) (by go_simp) ?_
    simp only [Act.put, List.setIfInBounds_toArray, List.set_cons_zero, List.set_cons_succ]
    refine WL.val (by kernel_rfl) (.slice none 0 0) (by go_simp) ?_
    simp only [Act.put, List.setIfInBounds_toArray, List.set_cons_zero, List.set_cons_succ]
    refine WL.val (by kernel_rfl) (.iface 66 (ptr q3)) (by go_simp) ?_
    simp only [Act.put, List.setIfInBounds_toArray, List.set_cons_zero, List.set_cons_succ]
    refine WL.nil ?_
    refine hK1 _ _ ?_
    refine wp_seq_k fun K9 hK9 => ?_
    refine wp_region_list (WL.out ?_)
    refine WL.val (by kernel_rfl) (.pointer (some ⟨x, 0, none⟩)) (by go_simp) ?_
    simp only [Act.put, List.setIfInBounds_toArray, List.set_cons_zero, List.set_cons_succ]
    refine WL.callF (by kernel_rfl) 11 _ _ rfl Try.in11 #[ptr x] (by simp [Act.eval]) ?_
    refine (rget_any x (.slice va l.length vc) l a w2 HF2.out (fun wx hx => (HRow.out.below B2.out).grown hx (fun k hk _ e => by have := Hlt.out k hk; have := Hxp.out; omega)) Ha.out Hlb.out HBy.out).mono ?_
    rintro e w3 h3
    rw [← HRt.out] at h3
    obtain ⟨v2, b2, rfl, hE2, hf2, hg2, hok2, hbad2⟩ := h3
    refine ⟨_, rfl, ?_⟩
    dsimp only at *
    have B3 : Keep (Below w.heap.size w w3) := ⟨B2.out.trans (hg2.to_below (fun k hk e => by have := Hxp.out; omega) B2.out.size)⟩
    obtain rfl : b2 = (q5 : Int) := by rcases hE2 with ⟨h, _⟩ | ⟨_, h⟩; exact absurd h Hne.out; exact h
    obtain rfl := hbad2 Hne.out
    have HBd3 : Keep (BadAt w3 q3 e5 q5) := ⟨hg2.blk HBd.out (blk_ne HBd.out HF2.out (by decide))⟩
    clear hE2 hf2 hok2 hbad2 hg2 HBd
    simp only [Act.put, List.setIfInBounds_toArray, List.set_cons_zero, List.set_cons_succ]
    refine WL.val (by kernel_rfl) (.tuple #[.slice none 0 0, .agg (erA e5 (q5 : Int))]) (by go_simp) ?_
    simp only [Act.put, List.setIfInBounds_toArray, List.set_cons_zero, List.set_cons_succ]
    refine WL.val (by kernel_rfl) (.slice none 0 0) (by go_simp) ?_
    simp only [Act.put, List.setIfInBounds_toArray, List.set_cons_zero, List.set_cons_succ]
    refine WL.val (by kernel_rfl) (.agg (erA e5 (q5 : Int))) (by go_simp) ?_
    simp only [Act.put, List.setIfInBounds_toArray, List.set_cons_zero, List.set_cons_succ]
    refine WL.new (by kernel_rfl) 27 rfl _ Try.new27E ?_
    simp only [Act.put, List.setIfInBounds_toArray, List.set_cons_zero, List.set_cons_succ]
    refine WL.val (by kernel_rfl) (.slice none 0 0) (by go_simp) ?_
    simp only [Act.put, List.setIfInBounds_toArray, List.set_cons_zero, List.set_cons_succ]
    refine WL.storeR (by kernel_rfl) 27 (.tmp 10) (.tmp 43) rfl w3.heap.size (erA e5 (q5 : Int)) rfl rfl 27 (erA 0 0) (Blk.new w3 27 _) (Try.size27B _ _) (erA_sizes _ _ _ _) (erA_one _ _) ?_
    have bq := below_setRow (below_new w3 (.cells (erA 0 0) 27)) (Nat.le_refl w3.heap.size) (erA e5 (q5 : Int))
    have Z10 := Keep.mk ((Blk.new w3 27 (erA 0 0)).setRow (erA e5 (q5 : Int)))
    generalize (w3.alloc (.cells (erA 0 0) 27)).setRow w3.heap.size (erA e5 (q5 : Int)) = w4 at *
    have B4 : Keep (Below w.heap.size w w4) := ⟨B3.out.trans (bq.mono B3.out.size)⟩
    have HBd4 : Keep (BadAt w4 q3 e5 q5) := ⟨Blk.below HBd3.out bq (Blk.lt HBd3.out)⟩
    clear HBd3
    clear bq
    generalize w3.heap.size = g10 at *
    skip
    simp only [Act.put]
    refine WL.nil ?_
    refine hK9 _ _ ?_
    refine wp_seq_k fun K10 hK10 => ?_
    refine wp_region_list (WL.out ?_)
    refine WL.val (by kernel_rfl) (.iface 66 (ptr q3)) (by go_simp) ?_
    simp only [Act.put, List.setIfInBounds_toArray, List.set_cons_zero, List.set_cons_succ]
    refine WL.callF (by kernel_rfl) 12 _ _ rfl Try.in12 #[.iface 66 (ptr q3)] (by simp [Act.eval]) ?_
    refine (placed_err q3 e5 q5 w4 HBd4.out Hne.out).mono ?_
    rintro e w5 ⟨rfl, hb5⟩
    refine ⟨_, rfl, ?_⟩
    have Z105 := Keep.mk (Z10.out.below hb5 Z10.out.lt)
    have B5 : Keep (Below w.heap.size w w5) := ⟨B4.out.trans (hb5.mono B4.out.size)⟩
    clear hb5 Z10
    simp only [Act.put, List.setIfInBounds_toArray, List.set_cons_zero, List.set_cons_succ]
    refine WL.val (by kernel_rfl) (.tuple #[.agg (erA e5 (q5 : Int)), .bool true]) (by go_simp) ?_
    simp only [Act.put, List.setIfInBounds_toArray, List.set_cons_zero, List.set_cons_succ]
    refine WL.val (by kernel_rfl) (.agg (erA e5 (q5 : Int))) (by go_simp) ?_
    simp only [Act.put, List.setIfInBounds_toArray, List.set_cons_zero, List.set_cons_succ]
    refine WL.val (by kernel_rfl) (.bool true) (by go_simp) ?_
    simp only [Act.put, List.setIfInBounds_toArray, List.set_cons_zero, List.set_cons_succ]
    refine WL.new (by kernel_rfl) 27 rfl _ Try.new27E ?_
    simp only [Act.put, List.setIfInBounds_toArray, List.set_cons_zero, List.set_cons_succ]
    refine WL.storeR (by kernel_rfl) 27 (.tmp 11) (.tmp 47) rfl w5.heap.size (erA e5 (q5 : Int)) rfl rfl 27 (erA 0 0) (Blk.new w5 27 _) (Try.size27B _ _) (erA_sizes _ _ _ _) (erA_one _ _) ?_
    have bq := below_setRow (below_new w5 (.cells (erA 0 0) 27)) (Nat.le_refl w5.heap.size) (erA e5 (q5 : Int))
    have Z11 := Keep.mk ((Blk.new w5 27 (erA 0 0)).setRow (erA e5 (q5 : Int)))
    generalize (w5.alloc (.cells (erA 0 0) 27)).setRow w5.heap.size (erA e5 (q5 : Int)) = w6 at *
    have Z106 := Keep.mk (Z105.out.below bq Z105.out.lt)
    have B6 : Keep (Below w.heap.size w w6) := ⟨B5.out.trans (bq.mono B5.out.size)⟩
    clear Z105
    clear bq
    generalize w5.heap.size = g11 at *
    skip
    simp only [Act.put]
    refine WL.val (by kernel_rfl) (.bool true) (by go_simp) ?_
    simp only [Act.put, List.setIfInBounds_toArray, List.set_cons_zero, List.set_cons_succ]
    refine WL.nil ?_
    refine hK10 _ _ ?_
    refine wp_seq_k fun K11 hK11 => ?_
    refine wp_seq_k fun K12 hK12 => ?_
    refine wp_region_list (WL.out ?_)
    refine WL.val (by kernel_rfl) (.bool true) (by go_simp) ?_
    simp only [Act.put, List.setIfInBounds_toArray, List.set_cons_zero, List.set_cons_succ]
    refine WL.val (by kernel_rfl) (.bool false) (by go_simp) ?_
    simp only [Act.put, List.setIfInBounds_toArray, List.set_cons_zero, List.set_cons_succ]
    refine WL.val (by kernel_rfl) (.bool false) (by go_simp) ?_
    simp only [Act.put, List.setIfInBounds_toArray, List.set_cons_zero, List.set_cons_succ]
    refine WL.row (by kernel_rfl) 27 (.tmp 11) rfl g11 rfl 27 (erA e5 (q5 : Int)) _ Z11.out Try.underlying27 rfl (Try.size27B _ _) ?_
    simp only [Act.put, List.setIfInBounds_toArray, List.set_cons_zero, List.set_cons_succ]
    refine WL.row (by kernel_rfl) 27 (.tmp 10) rfl g10 rfl 27 (erA e5 (q5 : Int)) _ Z106.out Try.underlying27 rfl (Try.size27B _ _) ?_
    simp only [Act.put, List.setIfInBounds_toArray, List.set_cons_zero, List.set_cons_succ]
    have hq := neqE (e5) (q5 : Int) w6
    refine WL.val (by kernel_rfl) (.bool false) (by clear hq; simp only [erA]; go_simp) ?_
    clear hq
    simp only [Act.put, List.setIfInBounds_toArray, List.set_cons_zero, List.set_cons_succ]
    refine WL.val (by kernel_rfl) (.bool false) (by go_simp) ?_
    simp only [Act.put, List.setIfInBounds_toArray, List.set_cons_zero, List.set_cons_succ]
    refine WL.val (by kernel_rfl) (.bool false) (by go_simp) ?_
    simp only [Act.put, List.setIfInBounds_toArray, List.set_cons_zero, List.set_cons_succ]
    refine WL.val (by kernel_rfl) (.slice none 0 0) (by go_simp) ?_
    simp only [Act.put, List.setIfInBounds_toArray, List.set_cons_zero, List.set_cons_succ]
    refine WL.val (by kernel_rfl) (.slice none 0 0) (by go_simp) ?_
    simp only [Act.put, List.setIfInBounds_toArray, List.set_cons_zero, List.set_cons_succ]
    refine WL.callF (by kernel_rfl) 13 _ _ rfl Try.in13 #[.slice none 0 0, .slice none 0 0] (by simp [Act.eval]) ?_
    refine (sameList_any _ _ [] w6 (.inl ⟨none, 0, rfl, rfl⟩) (.inl ⟨none, 0, rfl, rfl⟩) (by simp)).mono ?_
    rintro e w7 ⟨rfl, hb7⟩
    refine ⟨_, rfl, ?_⟩
    have B7 : Keep (Below w.heap.size w w7) := ⟨B6.out.trans (hb7.mono B6.out.size)⟩
    have Z107 := Keep.mk (Z106.out.below hb7 Z106.out.lt)
    clear hb7
    simp only [Act.put, List.setIfInBounds_toArray, List.set_cons_zero, List.set_cons_succ]
    refine WL.val (by kernel_rfl) (.bool false) (by go_simp) ?_
    simp only [Act.put, List.setIfInBounds_toArray, List.set_cons_zero, List.set_cons_succ]
    refine WL.val (by kernel_rfl) (.bool false) (by go_simp) ?_
    simp only [Act.put, List.setIfInBounds_toArray, List.set_cons_zero, List.set_cons_succ]
    refine WL.nil ?_
    refine hK12 _ _ ?_
    refine wp_cond_false rfl ?_
    refine wp_skip ?_
    refine hK11 _ _ ?_
    refine wp_seq_k fun K13 hK13 => ?_
    refine wp_seq_k fun K14 hK14 => ?_
    have hD0 : Below w7.heap.size w7 w7.drew := (Below.refl _ _).drew
    have HS0 : Keep (w7.drew.cell? ⟨g10, 0, none⟩ = some (.int .i64 e5)) := ⟨(Z107.out.below hD0 Z107.out.lt).c 0 (erA_0 _ _)⟩
    refine wp_region_held_drew (S := fun wx => wx.cell? ⟨g10, 0, none⟩ = some (.int .i64 e5)) (by kernel_rfl) (HS0.out) (fun hHeld => ?_)
    refine wpAnyH_take (i := 0) (oi := ⟨some 62, Op.fieldAddr 27 (Operand.tmp 10) 0, 0, _, _, none⟩) (v := .pointer (some ⟨g10, 0, none⟩)) rfl (by kernel_rfl) (by kernel_rfl) (by kernel_rfl) (fun _ _ _ h => h) (Or.inl ⟨by rfl, fun w hS => by have hne5 := Hne.out; go_simp⟩) hHeld ?_
    simp only [Act.put, List.setIfInBounds_toArray, List.set_cons_zero, List.set_cons_succ]
    refine wpAnyH_take (i := 1) (oi := ⟨some 63, Op.load 3 (Operand.tmp 62), 3, _, _, none⟩) (v := .int .i64 e5) rfl (by kernel_rfl) (by kernel_rfl) (by kernel_rfl) (fun _ _ _ h => h) (Or.inl ⟨by rfl, fun w hS => by have hne5 := Hne.out; go_simp⟩) hHeld ?_
    simp only [Act.put, List.setIfInBounds_toArray, List.set_cons_zero, List.set_cons_succ]
    refine wpAnyH_take (i := 2) (oi := ⟨some 64, Op.binOp BinOp.eql 3 (Operand.tmp 63) (Operand.const (Value.int IntKind.i64 0)) 3, 4, _, _, none⟩) (v := .bool false) rfl (by kernel_rfl) (by kernel_rfl) (by kernel_rfl) (fun _ _ _ h => h) (Or.inl ⟨by rfl, fun w hS => by have hne5 := Hne.out; go_simp⟩) hHeld ?_
    simp only [Act.put, List.setIfInBounds_toArray, List.set_cons_zero, List.set_cons_succ]
    refine wpAnyH_take (i := 3) (oi := ⟨some 65, Op.move (Operand.tmp 64), 4, _, _, none⟩) (v := .bool false) rfl (by kernel_rfl) (by kernel_rfl) (by kernel_rfl) (fun _ _ _ h => h) (Or.inl ⟨by rfl, fun w hS => by have hne5 := Hne.out; go_simp⟩) hHeld ?_
    simp only [Act.put, List.setIfInBounds_toArray, List.set_cons_zero, List.set_cons_succ]
    refine wpAnyH_take (i := 4) (oi := ⟨some 66, Op.move (Operand.tmp 5), 23, _, _, some (3, true)⟩) (v := undef) rfl (by kernel_rfl) (by kernel_rfl) (by kernel_rfl) (fun _ _ _ h => h) (Or.inr ⟨by rfl, rfl⟩) hHeld ?_
    simp only [Act.put, List.setIfInBounds_toArray, List.set_cons_zero, List.set_cons_succ]
    refine wpAnyH_take (i := 5) (oi := ⟨some 67, Op.call { callee := Callee.value (Operand.func 14), args := #[Operand.tmp 66], argTypes := #[23] }, 3, _, _, some (3, true)⟩) (v := undef) rfl (by kernel_rfl) (by kernel_rfl) (by kernel_rfl) (fun _ _ _ h => h) (Or.inr ⟨by rfl, rfl⟩) hHeld ?_
    simp only [Act.put, List.setIfInBounds_toArray, List.set_cons_zero, List.set_cons_succ]
    refine wpAnyH_take (i := 6) (oi := ⟨some 68, Op.move (Operand.tmp 6), 25, _, _, some (3, true)⟩) (v := undef) rfl (by kernel_rfl) (by kernel_rfl) (by kernel_rfl) (fun _ _ _ h => h) (Or.inr ⟨by rfl, rfl⟩) hHeld ?_
    simp only [Act.put, List.setIfInBounds_toArray, List.set_cons_zero, List.set_cons_succ]
    refine wpAnyH_take (i := 7) (oi := ⟨some 69, Op.nilCheck (Operand.tmp 68), 0, _, _, some (3, true)⟩) (v := undef) rfl (by kernel_rfl) (by kernel_rfl) (by kernel_rfl) (fun _ _ _ h => h) (Or.inr ⟨by rfl, rfl⟩) hHeld ?_
    simp only [Act.put, List.setIfInBounds_toArray, List.set_cons_zero, List.set_cons_succ]
    refine wpAnyH_take (i := 8) (oi := ⟨some 70, Op.fieldAddr 29 (Operand.tmp 69) 1, 0, _, _, some (3, true)⟩) (v := undef) rfl (by kernel_rfl) (by kernel_rfl) (by kernel_rfl) (fun _ _ _ h => h) (Or.inr ⟨by rfl, rfl⟩) hHeld ?_
    simp only [Act.put, List.setIfInBounds_toArray, List.set_cons_zero, List.set_cons_succ]
    refine wpAnyH_take (i := 9) (oi := ⟨some 71, Op.load 3 (Operand.tmp 70), 3, _, _, some (3, true)⟩) (v := undef) rfl (by kernel_rfl) (by kernel_rfl) (by kernel_rfl) (fun _ _ _ h => h) (Or.inr ⟨by rfl, rfl⟩) hHeld ?_
    simp only [Act.put, List.setIfInBounds_toArray, List.set_cons_zero, List.set_cons_succ]
    refine wpAnyH_take (i := 10) (oi := ⟨some 72, Op.binOp BinOp.neq 3 (Operand.tmp 67) (Operand.tmp 71) 3, 4, _, _, some (3, true)⟩) (v := undef) rfl (by kernel_rfl) (by kernel_rfl) (by kernel_rfl) (fun _ _ _ h => h) (Or.inr ⟨by rfl, rfl⟩) hHeld ?_
    simp only [Act.put, List.setIfInBounds_toArray, List.set_cons_zero, List.set_cons_succ]
    refine wpAnyH_take (i := 11) (oi := ⟨some 73, Op.move (Operand.tmp 72), 4, _, _, some (3, true)⟩) (v := undef) rfl (by kernel_rfl) (by kernel_rfl) (by kernel_rfl) (fun _ _ _ h => h) (Or.inr ⟨by rfl, rfl⟩) hHeld ?_
    simp only [Act.put, List.setIfInBounds_toArray, List.set_cons_zero, List.set_cons_succ]
    refine wpAnyH_take (i := 12) (oi := ⟨some 74, Op.move (Operand.tmp 5), 23, _, _, some (11, false)⟩) (v := undef) rfl (by kernel_rfl) (by kernel_rfl) (by kernel_rfl) (fun _ _ _ h => h) (Or.inr ⟨by rfl, rfl⟩) hHeld ?_
    simp only [Act.put, List.setIfInBounds_toArray, List.set_cons_zero, List.set_cons_succ]
    refine wpAnyH_take (i := 13) (oi := ⟨some 75, Op.call { callee := Callee.value (Operand.func 15), args := #[Operand.tmp 74], argTypes := #[23] }, 3, _, _, some (11, false)⟩) (v := undef) rfl (by kernel_rfl) (by kernel_rfl) (by kernel_rfl) (fun _ _ _ h => h) (Or.inr ⟨by rfl, rfl⟩) hHeld ?_
    simp only [Act.put, List.setIfInBounds_toArray, List.set_cons_zero, List.set_cons_succ]
    refine wpAnyH_take (i := 14) (oi := ⟨some 76, Op.move (Operand.tmp 6), 25, _, _, some (11, false)⟩) (v := undef) rfl (by kernel_rfl) (by kernel_rfl) (by kernel_rfl) (fun _ _ _ h => h) (Or.inr ⟨by rfl, rfl⟩) hHeld ?_
    simp only [Act.put, List.setIfInBounds_toArray, List.set_cons_zero, List.set_cons_succ]
    refine wpAnyH_take (i := 15) (oi := ⟨some 77, Op.call { callee := Callee.value (Operand.func 16), args := #[Operand.tmp 76], argTypes := #[25] }, 3, _, _, some (11, false)⟩) (v := undef) rfl (by kernel_rfl) (by kernel_rfl) (by kernel_rfl) (fun _ _ _ h => h) (Or.inr ⟨by rfl, rfl⟩) hHeld ?_
    simp only [Act.put, List.setIfInBounds_toArray, List.set_cons_zero, List.set_cons_succ]
    refine wpAnyH_take (i := 16) (oi := ⟨some 78, Op.binOp BinOp.neq 3 (Operand.tmp 75) (Operand.tmp 77) 3, 4, _, _, some (11, false)⟩) (v := undef) rfl (by kernel_rfl) (by kernel_rfl) (by kernel_rfl) (fun _ _ _ h => h) (Or.inr ⟨by rfl, rfl⟩) hHeld ?_
    simp only [Act.put, List.setIfInBounds_toArray, List.set_cons_zero, List.set_cons_succ]
    refine wpAnyH_take (i := 17) (oi := ⟨some 79, Op.pick (Operand.tmp 73) (Operand.const (Value.bool true)) (Operand.tmp 78), 4, _, _, some (3, true)⟩) (v := undef) rfl (by kernel_rfl) (by kernel_rfl) (by kernel_rfl) (fun _ _ _ h => h) (Or.inr ⟨by rfl, rfl⟩) hHeld ?_
    simp only [Act.put, List.setIfInBounds_toArray, List.set_cons_zero, List.set_cons_succ]
    refine wpAnyH_take (i := 18) (oi := ⟨some 80, Op.pick (Operand.tmp 65) (Operand.tmp 79) (Operand.const (Value.bool false)), 4, _, _, none⟩) (v := .bool false) rfl (by kernel_rfl) (by kernel_rfl) (by kernel_rfl) (fun _ _ _ h => h) (Or.inl ⟨by rfl, fun w hS => by have hne5 := Hne.out; go_simp⟩) hHeld ?_
    simp only [Act.put, List.setIfInBounds_toArray, List.set_cons_zero, List.set_cons_succ]
    refine wpAnyH_done (by kernel_rfl) ?_ _
    refine hK14 _ _ ?_
    refine wp_cond_false rfl ?_
    refine wp_skip ?_
    refine hK13 _ _ ?_
    refine wp_seq_k fun K15 hK15 => ?_
    refine wp_region_list (WL.out ?_)
    refine WL.callF (by kernel_rfl) 17 _ _ rfl Try.in17 #[] (by simp) ?_
    refine (fixed_any w7.drew).mono ?_
    rintro e w12 ⟨rfl, hb12⟩
    refine ⟨_, rfl, ?_⟩
    have B12 : Keep (Below w.heap.size w w12) := ⟨B7.out.trans ((hD0.trans (hb12.mono hD0.size)).mono B7.out.size)⟩
    simp only [Act.put, List.setIfInBounds_toArray, List.set_cons_zero, List.set_cons_succ]
    refine WL.val (by kernel_rfl) (.bool true) (by go_simp) ?_
    simp only [Act.put, List.setIfInBounds_toArray, List.set_cons_zero, List.set_cons_succ]
    refine WL.nil ?_
    refine hK15 _ _ ?_
    refine wp_ret ?_
    go_ret
    exact ⟨rfl, B12.out⟩
set_option maxRecDepth 8000 in
set_option maxHeartbeats 4000000 in
theorem gets_any (v : Value) (l : List Int) (s : Int) (w : World) (hr : RowAt w v l) (hB : Byts l) (hl : l.length ≤ 140737488351232) (hlt : ∀ k, v.ownBlock = some k → k < w.heap.size) (hs : -9223372036854775808 ≤ s ∧ s ≤ 9223372036854775807) : Calls Try.prog 3 #[v, .int .i64 s] w fun e w' => e = .returned (.bool true) ∧ Below w.heap.size w w' := by
  obtain ⟨va, vc, rfl⟩ := row_form hr
  have HR := Keep.mk hr
  have HBy := Keep.mk hB
  have Hlb := Keep.mk hl
  have Hlt := Keep.mk hlt
  obtain ⟨st, hst⟩ : ∃ st, strOfNums l = st := ⟨_, rfl⟩
  have Hst := Keep.mk hst
  have Hlst : Keep (lst st = l) := ⟨by rw [← hst]; exact lst_nums hB⟩
  have HS : Keep (st.size ≤ 140737488355328) := ⟨by rw [← hst, str_size hB]; omega⟩
  clear hr hB hl hlt hst
  go_enter Try.func3, Try.ntmps3
  refine wp_seq_k fun K1 hK1 => ?_
  refine wp_region_list (WL.out ?_)
  refine WL.val (by kernel_rfl) (.bool false) (by go_simp) ?_
  simp only [Act.put, List.setIfInBounds_toArray, List.set_cons_zero, List.set_cons_succ]
  refine WL.nil ?_
  refine hK1 _ _ ?_
  refine wp_seq_k fun K2 hK2 => ?_
  refine wp_region_list (WL.out ?_)
  refine WL.val (by kernel_rfl) (.slice va l.length vc) (by go_simp) ?_
  simp only [Act.put, List.setIfInBounds_toArray, List.set_cons_zero, List.set_cons_succ]
  refine WL.callF (by kernel_rfl) 7 _ _ rfl Try.in7 #[.slice va l.length vc] (by simp [Act.eval]) ?_
  refine (newIn_any _ l w HR.out).mono ?_
  rintro e w1 ⟨rfl, hw1⟩
  refine ⟨_, rfl, ?_⟩
  rw [Hst.out] at hw1
  rw [hw1]
  clear hw1 w1
  have HI1 : Keep (InAt (w.alloc (.cells #[.string st, .int .i64 0, .pointer none] 68)) w.heap.size st 0 none) := ⟨Blk.new w 68 _, Nat.zero_le _⟩
  have B1 : Keep (Below w.heap.size w (w.alloc (.cells #[.string st, .int .i64 0, .pointer none] 68))) := ⟨below_new w _⟩
  generalize w.alloc (.cells #[.string st, .int .i64 0, .pointer none] 68) = w1 at *
  obtain ⟨p, hp⟩ : ∃ p, w.heap.size = p := ⟨_, rfl⟩
  have Hp := Keep.mk hp
  rw [hp] at HI1 ⊢
  clear hp
  simp only [Act.put, List.setIfInBounds_toArray, List.set_cons_zero, List.set_cons_succ]
  refine WL.val (by kernel_rfl) (.pointer (some ⟨p, 0, none⟩)) (by go_simp) ?_
  simp only [Act.put, List.setIfInBounds_toArray, List.set_cons_zero, List.set_cons_succ]
  refine WL.nil ?_
  refine hK2 _ _ ?_
  refine wp_seq_k fun K3 hK3 => ?_
  refine wp_seq_k fun K4 hK4 => ?_
  refine wp_region_list (WL.out ?_)
  refine WL.val (by kernel_rfl) (.pointer (some ⟨p, 0, none⟩)) (by go_simp) ?_
  simp only [Act.put, List.setIfInBounds_toArray, List.set_cons_zero, List.set_cons_succ]
  refine WL.val (by kernel_rfl) (.bool false) (by go_simp) ?_
  simp only [Act.put, List.setIfInBounds_toArray, List.set_cons_zero, List.set_cons_succ]
  refine WL.nil ?_
  refine hK4 _ _ ?_
  refine wp_cond_false rfl ?_
  refine wp_skip ?_
  refine hK3 _ _ ?_
  refine wp_seq_k fun K5 hK5 => ?_
  refine wp_region_list (WL.out ?_)
  refine WL.val (by kernel_rfl) (.slice va l.length vc) (by go_simp) ?_
  simp only [Act.put, List.setIfInBounds_toArray, List.set_cons_zero, List.set_cons_succ]
  refine WL.bld (by kernel_rfl) 29 _ rfl [(0, .slice va l.length vc)] (by simp [Act.eval]) #[.slice va l.length vc, .int .i64 0, .int .i64 0, .int .i64 0] (ri_built _ _ _) ?_
  simp only [Act.put, List.setIfInBounds_toArray, List.set_cons_zero, List.set_cons_succ]
  refine WL.box (by kernel_rfl) 29 (.tmp 18) rfl #[.slice va l.length vc, .int .i64 0, .int .i64 0, .int .i64 0] rfl ?_
  have HF2 : Keep (RfAt (w1.alloc (.cells #[.slice va l.length vc, .int .i64 0, .int .i64 0, .int .i64 0] 29)) w1.heap.size (.slice va l.length vc) 0 0 0) := ⟨Blk.new w1 29 _⟩
  have bq := below_new w1 (.cells #[.slice va l.length vc, .int .i64 0, .int .i64 0, .int .i64 0] 29)
  have HI2 := Keep.mk (HI1.out.box (.cells #[.slice va l.length vc, .int .i64 0, .int .i64 0, .int .i64 0] 29))
  have B2 : Keep (Below w.heap.size w (w1.alloc (.cells #[.slice va l.length vc, .int .i64 0, .int .i64 0, .int .i64 0] 29))) := ⟨B1.out.trans (bq.mono B1.out.size)⟩
  generalize w1.alloc (.cells #[.slice va l.length vc, .int .i64 0, .int .i64 0, .int .i64 0] 29) = w2 at *
  obtain ⟨x, hx⟩ : ∃ x, w1.heap.size = x := ⟨_, rfl⟩
  have Hx : Keep (w.heap.size ≤ x) := ⟨by rw [← hx]; exact B1.out.size⟩
  rw [hx] at HF2 ⊢
  clear hx bq HI1
  simp only [Act.put, List.setIfInBounds_toArray, List.set_cons_zero, List.set_cons_succ]
  refine WL.val (by kernel_rfl) (.pointer (some ⟨x, 0, none⟩)) (by go_simp) ?_
  simp only [Act.put, List.setIfInBounds_toArray, List.set_cons_zero, List.set_cons_succ]
  refine WL.nil ?_
  refine hK5 _ _ ?_
  refine wp_seq_k fun K6 hK6 => ?_
  refine wp_seq_k fun K7 hK7 => ?_
  by_cases hs0 : 0 < s
  · by_cases hsl : s ≤ (l.length : Int)
    · skip
      obtain ⟨k, rfl⟩ : ∃ k : Nat, s = (k : Int) := ⟨s.toNat, by omega⟩
      have Hk : Keep (k ≤ l.length) := ⟨by omega⟩
      have hs0' : 0 < k := by omega
      have hsl' : k ≤ l.length := by omega
      refine wp_region_list (WL.out ?_)
      refine WL.val (by kernel_rfl) (.int .i64 (k : Int)) (by go_simp) ?_
      simp only [Act.put, List.setIfInBounds_toArray, List.set_cons_zero, List.set_cons_succ]
      refine WL.val (by kernel_rfl) (.bool true) (by go_simp) ?_
      simp only [Act.put, List.setIfInBounds_toArray, List.set_cons_zero, List.set_cons_succ]
      refine WL.val (by kernel_rfl) (.bool true) (by go_simp) ?_
      simp only [Act.put, List.setIfInBounds_toArray, List.set_cons_zero, List.set_cons_succ]
      refine WL.val (by kernel_rfl) (.int .i64 (k : Int)) (by go_simp) ?_
      simp only [Act.put, List.setIfInBounds_toArray, List.set_cons_zero, List.set_cons_succ]
      refine WL.val (by kernel_rfl) (.slice va l.length vc) (by go_simp) ?_
      simp only [Act.put, List.setIfInBounds_toArray, List.set_cons_zero, List.set_cons_succ]
      refine WL.val (by kernel_rfl) (.int .i64 (l.length : Int)) (by go_simp) ?_
      simp only [Act.put, List.setIfInBounds_toArray, List.set_cons_zero, List.set_cons_succ]
      refine WL.val (by kernel_rfl) (.bool true) (by go_simp) ?_
      simp only [Act.put, List.setIfInBounds_toArray, List.set_cons_zero, List.set_cons_succ]
      refine WL.val (by kernel_rfl) (.bool true) (by go_simp) ?_
      simp only [Act.put, List.setIfInBounds_toArray, List.set_cons_zero, List.set_cons_succ]
      refine WL.nil ?_
      refine hK7 _ _ ?_
      refine wp_cond_true rfl ?_
      refine wp_seq_k fun K8 hK8 => ?_
      refine wp_region_list (WL.out ?_)
      refine WL.val (by kernel_rfl) (.pointer (some ⟨p, 0, none⟩)) (by go_simp) ?_
      simp only [Act.put, List.setIfInBounds_toArray, List.set_cons_zero, List.set_cons_succ]
      refine WL.val (by kernel_rfl) (.int .i64 (k : Int)) (by go_simp) ?_
      simp only [Act.put, List.setIfInBounds_toArray, List.set_cons_zero, List.set_cons_succ]
      refine WL.callF (by kernel_rfl) 8 _ _ rfl Try.in8 #[ptr p, .int .i64 (k : Int)] (by simp [Act.eval]) ?_
      refine (iraw_good p st 0 (k : Int) w2 HI2.out HS.out (by omega) (by have := Hk.out; have := Hlb.out; omega) l (by rw [Hlst.out, List.drop_zero]) 0 (by unfold nextW; rw [if_neg (by omega), if_neg (by have := Hk.out; omega)]) k (by unfold nextN; rw [if_pos (by unfold nextW; rw [if_neg (by omega), if_neg (by have := Hk.out; omega)])]; omega)).mono ?_
      rintro e w3 ⟨bad, er, res, rfl, h1, h2, h3, h4⟩
      refine ⟨_, rfl, ?_⟩
      rcases h3 with ⟨_, rfl, rfl⟩ | ⟨e1, _⟩
      rotate_left
      · exact absurd rfl e1
      rw [Nat.zero_add] at h1
      have HI3 := Keep.mk h1
      have HF3 : Keep (RfAt w3 x (.slice va l.length vc) 0 0 0) := ⟨h2.blk HF2.out (blk_ne HF2.out HI2.out.blk (by decide))⟩
      have B3 : Keep (Below w.heap.size w w3) := ⟨B2.out.trans (h2.to_below (fun k hk e => by have := Hp.out; omega) B2.out.size)⟩
      clear h1 h2 h4 HI2 HF2 B2
      simp only [Act.put, List.setIfInBounds_toArray, List.set_cons_zero, List.set_cons_succ]
      refine WL.nil ?_
      refine hK8 _ _ ?_
      refine wp_region_list (WL.out ?_)
      refine WL.val (by kernel_rfl) (.pointer (some ⟨x, 0, none⟩)) (by go_simp) ?_
      simp only [Act.put, List.setIfInBounds_toArray, List.set_cons_zero, List.set_cons_succ]
      refine WL.val (by kernel_rfl) (.int .i64 (k : Int)) (by go_simp) ?_
      simp only [Act.put, List.setIfInBounds_toArray, List.set_cons_zero, List.set_cons_succ]
      refine WL.callF (by kernel_rfl) 9 _ _ rfl Try.in9 #[ptr x, .int .i64 (k : Int)] (by simp [Act.eval]) ?_
      refine (xraw_good x (.slice va l.length vc) l 0 (k : Int) w3 HF3.out (fun wx hx => (HR.out.below B3.out).grown hx (fun k hk _ e => by have := Hlt.out k hk; have := Hx.out; omega)) (Nat.zero_le _) (by have := Hlb.out; omega) l (by rw [List.drop_zero]) 0 (by unfold nextW; rw [if_neg (by omega), if_neg (by have := Hk.out; omega)]) k (by unfold nextN; rw [if_pos (by unfold nextW; rw [if_neg (by omega), if_neg (by have := Hk.out; omega)])]; omega)).mono ?_
      rintro e w4 ⟨b4, res4, hE4, rfl, h1, h2, h3, h4⟩
      refine ⟨_, rfl, ?_⟩
      obtain rfl : b4 = 0 := by rcases hE4 with ⟨_, h⟩ | ⟨h, _⟩; exact h; exact absurd rfl h
      rw [Nat.zero_add] at h1
      have HF4 := Keep.mk h1
      have HI4 : Keep (InAt w4 p st k none) := ⟨h2.blk HI3.out.blk (blk_ne HI3.out.blk HF3.out (by decide)), HI3.out.le⟩
      have B4 : Keep (Below w.heap.size w w4) := ⟨B3.out.trans (h2.to_below (fun k hk e => by have := Hx.out; omega) B3.out.size)⟩
      clear h1 h2 h3 h4 hE4
      simp only [Act.put, List.setIfInBounds_toArray, List.set_cons_zero, List.set_cons_succ]
      refine WL.nil ?_
      refine hK6 _ _ ?_
      exact gets_end va vc l x p k st w w4 HR.out HBy.out Hlb.out Hlt.out Hst.out.symm HI4.out HF4.out B4.out ⟨Hx.out, by have := Hp.out; omega⟩ Hk.out
    · skip
      refine wp_region_list (WL.out ?_)
      refine WL.val (by kernel_rfl) (.int .i64 s) (by go_simp) ?_
      simp only [Act.put, List.setIfInBounds_toArray, List.set_cons_zero, List.set_cons_succ]
      refine WL.val (by kernel_rfl) (.bool true) (by go_simp) ?_
      simp only [Act.put, List.setIfInBounds_toArray, List.set_cons_zero, List.set_cons_succ]
      refine WL.val (by kernel_rfl) (.bool true) (by go_simp) ?_
      simp only [Act.put, List.setIfInBounds_toArray, List.set_cons_zero, List.set_cons_succ]
      refine WL.val (by kernel_rfl) (.int .i64 s) (by go_simp) ?_
      simp only [Act.put, List.setIfInBounds_toArray, List.set_cons_zero, List.set_cons_succ]
      refine WL.val (by kernel_rfl) (.slice va l.length vc) (by go_simp) ?_
      simp only [Act.put, List.setIfInBounds_toArray, List.set_cons_zero, List.set_cons_succ]
      refine WL.val (by kernel_rfl) (.int .i64 (l.length : Int)) (by go_simp) ?_
      simp only [Act.put, List.setIfInBounds_toArray, List.set_cons_zero, List.set_cons_succ]
      refine WL.val (by kernel_rfl) (.bool false) (by go_simp) ?_
      simp only [Act.put, List.setIfInBounds_toArray, List.set_cons_zero, List.set_cons_succ]
      refine WL.val (by kernel_rfl) (.bool false) (by go_simp) ?_
      simp only [Act.put, List.setIfInBounds_toArray, List.set_cons_zero, List.set_cons_succ]
      refine WL.nil ?_
      refine hK7 _ _ ?_
      refine wp_cond_false rfl ?_
      refine wp_skip ?_
      refine hK6 _ _ ?_
      exact gets_end va vc l x p 0 st w w2 HR.out HBy.out Hlb.out Hlt.out Hst.out.symm HI2.out HF2.out B2.out ⟨Hx.out, by have := Hp.out; omega⟩ (Nat.zero_le _)
  · skip
    refine wp_region_list (WL.out ?_)
    refine WL.val (by kernel_rfl) (.int .i64 s) (by go_simp) ?_
    simp only [Act.put, List.setIfInBounds_toArray, List.set_cons_zero, List.set_cons_succ]
    refine WL.val (by kernel_rfl) (.bool false) (by go_simp) ?_
    simp only [Act.put, List.setIfInBounds_toArray, List.set_cons_zero, List.set_cons_succ]
    refine WL.val (by kernel_rfl) (.bool false) (by go_simp) ?_
    simp only [Act.put, List.setIfInBounds_toArray, List.set_cons_zero, List.set_cons_succ]
    refine WL.skip (by kernel_rfl) ?_
    simp only [Act.put, List.setIfInBounds_toArray, List.set_cons_zero, List.set_cons_succ]
    refine WL.skip (by kernel_rfl) ?_
    simp only [Act.put, List.setIfInBounds_toArray, List.set_cons_zero, List.set_cons_succ]
    refine WL.skip (by kernel_rfl) ?_
    simp only [Act.put, List.setIfInBounds_toArray, List.set_cons_zero, List.set_cons_succ]
    refine WL.skip (by kernel_rfl) ?_
    simp only [Act.put, List.setIfInBounds_toArray, List.set_cons_zero, List.set_cons_succ]
    refine WL.val (by kernel_rfl) (.bool false) (by go_simp) ?_
    simp only [Act.put, List.setIfInBounds_toArray, List.set_cons_zero, List.set_cons_succ]
    refine WL.nil ?_
    refine hK7 _ _ ?_
    refine wp_cond_false rfl ?_
    refine wp_skip ?_
    refine hK6 _ _ ?_
    exact gets_end va vc l x p 0 st w w2 HR.out HBy.out Hlb.out Hlt.out Hst.out.symm HI2.out HF2.out B2.out ⟨Hx.out, by have := Hp.out; omega⟩ (Nat.zero_le _)
end Go.Proofs.Ytkjjlfpghhefcab
namespace Go.Proofs.Ytkjjlfpghhefcab
open Go.ChangeShapes Go.WideShapes Go.ChangeAt Go.RowKit Go.Deep

theorem Try.cellsOf59 : Try.prog.cellsOf 59 = 37 := by kernel_rfl
theorem Try.cellsOf57 : Try.prog.cellsOf 57 = 33 := by kernel_rfl
theorem Try.cellsOf55 : Try.prog.cellsOf 55 = 32 := by kernel_rfl
theorem Try.cellsOf22 : Try.prog.cellsOf 22 = 1 := by kernel_rfl
theorem Try.cellsOf3 : Try.prog.cellsOf 3 = 1 := by kernel_rfl
theorem Try.cellsOf2 : Try.prog.cellsOf 2 = 1 := by kernel_rfl
theorem Try.cellsOf9 : Try.prog.cellsOf 9 = 1 := by kernel_rfl
theorem Try.cellsOf5 : Try.prog.cellsOf 5 = 1 := by kernel_rfl
theorem Try.bytesOf59 : Try.prog.bytesOf 59 = 88 := by kernel_rfl
theorem Try.bytesOf5 : Try.prog.bytesOf 5 = 1 := by kernel_rfl
theorem reach_is : reachBytes = 140737488351232 := by decide
theorem add_none' (b o i : Nat) : (⟨b, o, none⟩ : Addr).add i = ⟨b, o + i, none⟩ := by
  cases i with
  | zero => rfl
  | succ i => rfl
theorem mem_weightsAll {H : Type} {P : Program} {e : TypeId} {d : DataW H} : ∀ {ds : List (DataW H)}, d ∈ ds → ∀ n ∈ d.weights P e, n ∈ DataW.weightsAll P e ds
  | d0 :: ds, h, n, hn => by
    simp only [DataW.weightsAll, List.mem_append]
    rcases List.mem_cons.1 h with rfl | h
    · exact .inl hn
    · exact .inr (mem_weightsAll h n hn)
theorem wf_u8 {n : Int} (h : (Lit.int .u8 n).wf = true) : 0 ≤ n ∧ n < 256 := by
  have h1 : IntKind.u8.min = 0 := by decide
  have h2 : IntKind.u8.max = 255 := by decide
  simp only [Lit.wf, h1, h2, Bool.and_eq_true, decide_eq_true_eq] at h
  omega
theorem wf_i64 {n : Int} (h : (Lit.int .i64 n).wf = true) : -9223372036854775808 ≤ n ∧ n ≤ 9223372036854775807 := by
  have h1 : IntKind.i64.min = -9223372036854775808 := by decide
  have h2 : IntKind.i64.max = 9223372036854775807 := by decide
  simp only [Lit.wf, h1, h2, Bool.and_eq_true, decide_eq_true_eq] at h
  omega

/-- A reading of a slice of bytes tells a row. -/
theorem row_of_trod {H : Type} {enc : TypeId × Value → H} {W : World} {sp : Nat → Bool} {held : Bool} {n base : Nat} {v : Value} {x : DataW H × List MemPlace} (hf : DataW.trod enc Try.prog W base sp held n 22 [v] = some x) (hw : ∀ n ∈ x.1.weights Try.prog 22, n ≤ reachBytes) :
    ∃ l : List Int, RowAt W v l ∧ Byts l ∧ l.length ≤ 140737488351232 := by
  rcases open_ints Try.underlying22 Try.underlying5 Try.cellsOf5 hf with ⟨hcs, _⟩ | ⟨a, len, cap, zs, hcs, _, hl, hm, hz, hx, hcell, hwz⟩
  · simp at hcs
    subst hcs
    exact ⟨[], .inl ⟨rfl, rfl⟩, Byts.nil, by simp⟩
  · simp at hcs
    subst hcs
    unfold maxLen at hm
    have hlz : len ≤ zs.length := by rw [hz]; split <;> omega
    have hbz : Byts zs := fun c hc => wf_u8 (hwz c hc)
    have hb : len ≤ 140737488351232 := by
      have h1 := hw ((zs.take len).length + (zs.drop len).length) (by
        rw [hx]
        simp only [DataW.weights, Try.underlying22]
        simp [lits, Try.bytesOf5])
      rw [List.length_take, reach_is] at h1
      omega
    by_cases h0 : len = 0
    · subst h0
      exact ⟨[], .inr (.inl ⟨a, cap, rfl, rfl⟩), Byts.nil, by simp⟩
    · have hs : a.spot = none := by
        have := hcell 0 (by omega)
        rw [show a.add 0 = a from rfl] at this
        exact World.cell?_spot this
      obtain ⟨b, off, sp⟩ := a
      obtain rfl : sp = none := hs
      have hlen : (zs.take len).length = len := by rw [List.length_take]; omega
      refine ⟨zs.take len, .inr (.inr ⟨b, off, cap, by rw [hlen], by omega, fun i hi => ?_⟩), hbz.take len, by omega⟩
      rw [hlen] at hi
      have := hcell i (by omega)
      rw [add_none'] at this
      rw [this]
      simp [List.getD, hi]

theorem trod_struct5 {H : Type} {enc : TypeId × Value → H} {P : Program} {w : World} {base : Nat} {spare : Nat → Bool} {held : Bool} {t : TypeId} {f0 f1 f2 f3 f4 : Field} {fuel : Nat} {cs : List Value} {x : DataW H × List MemPlace} (ht : P.underlying t = some (.struct #[f0, f1, f2, f3, f4])) (h : DataW.trod enc P w base spare held fuel t cs = some x) :
    ∃ y0 y1 y2 y3 y4 n, x.1 = .agg [y0.1, y1.1, y2.1, y3.1, y4.1] ∧ cs.length = P.cellsOf t ∧ DataW.trod enc P w base spare held n f0.type ((cs.drop f0.offset).take (P.cellsOf f0.type)) = some y0 ∧
      DataW.trod enc P w base spare held n f1.type ((cs.drop f1.offset).take (P.cellsOf f1.type)) = some y1 ∧ DataW.trod enc P w base spare held n f2.type ((cs.drop f2.offset).take (P.cellsOf f2.type)) = some y2 ∧ DataW.trod enc P w base spare held n f3.type ((cs.drop f3.offset).take (P.cellsOf f3.type)) = some y3 ∧ DataW.trod enc P w base spare held n f4.type ((cs.drop f4.offset).take (P.cellsOf f4.type)) = some y4 := by
  obtain ⟨xs, n, _, rfl, hl, hlen, hf⟩ := DataW.trod_struct ht h
  match xs, hlen with
  | [y0, y1, y2, y3, y4], _ => exact ⟨y0, y1, y2, y3, y4, n, by simp, hl, by simpa using hf 0 f0 rfl, by simpa using hf 1 f1 rfl, by simpa using hf 2 f2 rfl, by simpa using hf 3 f3 rfl, by simpa using hf 4 f4 rfl⟩
theorem trod_struct2 {H : Type} {enc : TypeId × Value → H} {P : Program} {w : World} {base : Nat} {spare : Nat → Bool} {held : Bool} {t : TypeId} {f0 f1 : Field} {fuel : Nat} {cs : List Value} {x : DataW H × List MemPlace} (ht : P.underlying t = some (.struct #[f0, f1])) (h : DataW.trod enc P w base spare held fuel t cs = some x) :
    ∃ y0 y1 n, x.1 = .agg [y0.1, y1.1] ∧ cs.length = P.cellsOf t ∧ DataW.trod enc P w base spare held n f0.type ((cs.drop f0.offset).take (P.cellsOf f0.type)) = some y0 ∧
      DataW.trod enc P w base spare held n f1.type ((cs.drop f1.offset).take (P.cellsOf f1.type)) = some y1 := by
  obtain ⟨xs, n, _, rfl, hl, hlen, hf⟩ := DataW.trod_struct ht h
  match xs, hlen with
  | [y0, y1], _ => exact ⟨y0, y1, n, by simp, hl, by simpa using hf 0 f0 rfl, by simpa using hf 1 f1 rfl⟩
theorem take_one {l : List Value} {i : Nat} {v : Value} (h : (l.drop i).take 1 = [v]) : l[i]? = some v := by
  have h2 : ((l.drop i).take 1)[0]? = some v := by rw [h]; rfl
  rw [List.getElem?_take, if_pos (by omega), List.getElem?_drop] at h2
  simpa using h2
/-- A reading of 32 cells as a hash tells its bytes. -/
theorem hash_of_trod {H : Type} {enc : TypeId × Value → H} {W : World} {sp : Nat → Bool} {held : Bool} {n base : Nat} {l : List Value} {x : DataW H × List MemPlace} (hf : DataW.trod enc Try.prog W base sp held n 55 l = some x) :
    ∃ c : List Int, l = bv (hl 32 (hof c)) ∧ c.length = 32 ∧ Byts c := by
  obtain ⟨xs, m, _, _, hl_, hx, hel⟩ := DataW.trod_array Try.underlying55 hf
  rw [Try.cellsOf55] at hl_
  rw [Try.cellsOf5] at hel
  have each : ∀ i, i < 32 → ∃ z : Int, l[i]? = some (.int .u8 z) ∧ 0 ≤ z ∧ z < 256 := by
    intro i hi
    have h1 := hel i hi
    rw [List.getElem?_eq_getElem (by omega), Nat.mul_one] at h1
    obtain ⟨z, hz, _, hw⟩ := DataW.trod_int Try.underlying5 h1
    have hb := wf_u8 hw
    exact ⟨z, take_one hz, by omega, by omega⟩
  obtain ⟨c, hc⟩ := Go.Deep.choose_lt each
  refine ⟨hl 32 c, ?_, hl_len _ _, fun z hz => ?_⟩
  · rw [hl_of, ← hl_bytesA]
    apply List.ext_getElem?
    intro i
    by_cases hi : i < 32
    · rw [(hc i hi).1, Array.getElem?_toList, bytesA_get _ _ _ hi]
    · rw [List.getElem?_eq_none (by omega), List.getElem?_eq_none (by rw [Array.length_toList, bytesA_size]; omega)]
  · unfold hl at hz
    obtain ⟨i, hi, rfl⟩ := List.mem_map.1 hz
    exact (hc i (List.mem_range.1 hi)).2
theorem one_of {cs : List Value} {v : Value} {j : Nat} (h : (cs.drop j).take 1 = [v]) : cs[j]? = some v := take_one h
/-- A reading of 37 cells as an operation. -/
theorem op_of_trod {H : Type} {enc : TypeId × Value → H} {W : World} {sp : Nat → Bool} {held : Bool} {n base : Nat} {cs : List Value} {x : DataW H × List MemPlace} (hf : DataW.trod enc Try.prog W base sp held n 59 cs = some x) (hw : ∀ n ∈ x.1.weights Try.prog 59, n ≤ reachBytes) :
    ∃ q : OpV, cs = opL q ∧ OpOk q := by
  obtain ⟨y0, y1, y2, y3, y4, k, hx, hl0, h0, h1, h2, h3, h4⟩ := trod_struct5 Try.underlying59 hf
  rw [Try.cellsOf59] at hl0
  simp only [Try.cellsOf3, Try.cellsOf9, Try.cellsOf2, Try.cellsOf57] at h0 h1 h2 h3 h4
  obtain ⟨z0, e0, _, w0⟩ := DataW.trod_int Try.underlying3 h0
  obtain ⟨s1, e1, f1, w1⟩ := DataW.trod_string Try.underlying9 h1
  obtain ⟨s2, e2, f2, w2⟩ := DataW.trod_string Try.underlying9 h2
  obtain ⟨z3, e3, _, w3⟩ := DataW.trod_int Try.underlying2 h3
  obtain ⟨a0, a1, k2, hx4, hl4, g0, g1⟩ := trod_struct2 Try.underlying57 h4
  rw [Try.cellsOf57] at hl4
  simp only [Try.cellsOf55, Try.cellsOf3] at g0 g1
  obtain ⟨c, ec, hc1, hc2⟩ := hash_of_trod g0
  obtain ⟨z4, e4, _, w4⟩ := DataW.trod_int Try.underlying3 g1
  have b0 := wf_i64 w0
  have b3 := wf_i64 w3
  have b4 := wf_i64 w4
  have kb1 : s1.size ≤ reachBytes := hw s1.size (by
    rw [hx]
    simp only [DataW.weights, Try.underlying59]
    refine DataW.weights_mem_each (j := 1) (t := 9) rfl rfl _ ?_
    rw [f1]
    simp [DataW.weights])
  have kb2 : s2.size ≤ reachBytes := hw s2.size (by
    rw [hx]
    simp only [DataW.weights, Try.underlying59]
    refine DataW.weights_mem_each (j := 2) (t := 9) rfl rfl _ ?_
    rw [f2]
    simp [DataW.weights])
  rw [reach_is] at kb1 kb2
  refine ⟨⟨z0, s1, s2, z3, c, z4⟩, ?_, ⟨hc1, hc2, b0.1, b0.2, b3.1, b3.2, b4.1, b4.2, by simp only; omega, by simp only; omega⟩⟩
  have q0 : cs[0]? = some (.int .i64 z0) := one_of (by simpa using e0)
  have q1 : cs[1]? = some (.string s1) := one_of (by simpa using e1)
  have q2 : cs[2]? = some (.string s2) := one_of (by simpa using e2)
  have q3 : cs[3]? = some (.int .i64 z3) := one_of (by simpa using e3)
  have hd : cs.drop 4 = idL c z4 := by
    have hfull : (cs.drop 4).take 33 = cs.drop 4 := List.take_of_length_le (by rw [List.length_drop]; omega)
    rw [hfull] at ec e4
    have q4 : (cs.drop 4)[32]? = some (.int .i64 z4) := one_of (by simpa using e4)
    rw [List.drop_zero] at ec
    unfold idL
    rw [← ec, ← List.take_append_drop 32 (cs.drop 4)]
    congr 1
    · rw [List.take_append_drop]
    · apply List.ext_getElem?
      intro i
      match i with
      | 0 => rw [List.getElem?_drop]; simpa using q4
      | i + 1 => rw [List.getElem?_eq_none (by rw [List.length_drop, List.length_drop]; omega)]; simp
  unfold opL
  rw [← hd, ← List.take_append_drop 4 cs]
  congr 1
  · apply List.ext_getElem?
    intro i
    match i with
    | 0 => rw [List.getElem?_take, if_pos (by omega), q0]; rfl
    | 1 => rw [List.getElem?_take, if_pos (by omega), q1]; rfl
    | 2 => rw [List.getElem?_take, if_pos (by omega), q2]; rfl
    | 3 => rw [List.getElem?_take, if_pos (by omega), q3]; rfl
    | i + 4 => rw [List.getElem?_eq_none (by rw [List.length_take]; omega)]; simp
  · rw [List.take_append_drop]
/-- A reading of a list of operations. -/
theorem ops_of_trod {H : Type} {enc : TypeId × Value → H} {W : World} {sp : Nat → Bool} {held : Bool} {fuel base : Nat} {v : Value} {x : DataW H × List MemPlace} (hf : DataW.trod enc Try.prog W base sp held fuel 36 [v] = some x) (hw : ∀ n ∈ x.1.weights Try.prog 36, n ≤ reachBytes) :
    ∃ l : List OpV, OpsAt W v l ∧ (∀ q ∈ l, OpOk q) ∧ l.length ≤ 4398046511104 := by
  rcases open_slice Try.underlying36 hf with ⟨hcs, _⟩ | ⟨a, len, cap, m, n, D, Pl, hcs, _, hl_, hm, hz, hx, hcell⟩
  · simp at hcs
    subst hcs
    exact ⟨[], .inl ⟨none, 0, rfl, rfl⟩, by simp, by simp⟩
  · simp at hcs
    subst hcs
    have hlz : len ≤ m := by rw [hz]; split <;> omega
    have hb : len ≤ 4398046511104 := by
      have h1 := hw ((((List.range len).map D).length + ((List.range (m - len)).map fun j => D (len + j)).length) * 88) (by
        rw [hx]
        simp only [DataW.weights, Try.underlying36]
        simp [Try.bytesOf59])
      rw [reach_is] at h1
      simp only [List.length_map, List.length_range] at h1
      omega
    have hwD : ∀ i, i < len → ∀ n ∈ (D i).weights Try.prog 59, n ≤ reachBytes := fun i hi n hn => hw n (by
      rw [hx]
      simp only [DataW.weights, Try.underlying36]
      refine List.mem_cons_of_mem _ (List.mem_append_left _ (mem_weightsAll (d := D i) ?_ n hn))
      exact List.mem_map.2 ⟨i, List.mem_range.2 hi, rfl⟩)
    have each : ∀ i, i < len → ∃ q : OpV, (∀ j v, (opL q)[j]? = some v → W.cell? ((a.add (i * 37)).add j) = some v) ∧ OpOk q := by
      intro i hi
      obtain ⟨cs', h1, h2⟩ := hcell i (by omega)
      rw [Try.cellsOf59] at h1
      obtain ⟨_, hlen, hce⟩ := World.cells?_some h1
      obtain ⟨q, rfl, h3⟩ := op_of_trod h2 (hwD i hi)
      refine ⟨q, fun j v hv => ?_, h3⟩
      obtain ⟨hj, e⟩ := List.getElem?_eq_some_iff.1 hv
      rw [opL_len] at hj
      rw [hce j (by omega), ← hv]
    haveI : Inhabited OpV := ⟨zeroOp⟩
    obtain ⟨q, hq⟩ := Go.Deep.choose_lt each
    refine ⟨(List.range len).map q, ?_, ?_, by simpa using hb⟩
    · by_cases h0 : len = 0
      · subst h0
        exact .inl ⟨_, _, rfl, rfl⟩
      · have hs : a.spot = none := by
          have := (hq 0 (by omega)).1 0 _ (show (opL (q 0))[0]? = some (.int .i64 (q 0).kind) by simp [opL])
          rw [Nat.zero_mul, show a.add 0 = a from rfl] at this
          rw [show a.add 0 = a from rfl] at this
          exact World.cell?_spot this
        obtain ⟨b, off, sp⟩ := a
        obtain rfl : sp = none := hs
        refine .inr ⟨b, off, cap, by simp, by simp; omega, fun i x hxi j v hv => ?_⟩
        obtain ⟨hi, e⟩ := List.getElem?_eq_some_iff.1 hxi
        simp at hi e
        subst e
        have := (hq i hi).1 j v hv
        simp only [add_none'] at this
        exact this
    · intro z hz'
      obtain ⟨i, hi, rfl⟩ := List.mem_map.1 hz'
      exact (hq i (List.mem_range.1 hi)).2
end Go.Proofs.Ytkjjlfpghhefcab
namespace Go.Proofs.Ytkjjlfpghhefcab
open Go.ChangeShapes Go.WideShapes Go.ChangeAt Go.RowKit Go.Deep

set_option maxRecDepth 8000 in
/-- The block of a slice that is handed in is there. -/
theorem wide_lt {W : World} {r : Reach} {base : Nat} {t e : TypeId} (hu : Try.prog.underlying t = some (.slice e)) {a : Option Addr} {n c : Nat} (h : Value.okWide Try.prog W r base t (.slice a n c)) : ∀ k, (Value.slice a n c).ownBlock = some k → k < W.heap.size := by
  intro k hk
  cases a with
  | none => simp [Value.ownBlock] at hk
  | some ad =>
    simp [Value.ownBlock] at hk
    subst hk
    unfold Value.okWide at h
    simp only [hu] at h
    unfold Cell.okWide at h
    simp only [hu] at h
    unfold Cell.ok at h
    simp only [hu] at h
    obtain ⟨_, _, _, _, row, cells, hs, _⟩ := h
    apply Nat.lt_of_not_le
    intro hle
    simp [World.shape?, Array.getElem?_eq_none hle] at hs
end Go.Proofs.Ytkjjlfpghhefcab
