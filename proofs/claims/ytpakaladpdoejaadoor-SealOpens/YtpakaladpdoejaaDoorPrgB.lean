import Derived.Test.YtpakaladpdoejaaDoorPrgA
import Derived.Test.YtpakaladpdoejaaDoorMacs
namespace Go.Proofs.YtpakaladpdoejaaDoor
open Go.RowKit

theorem pad_is (key : List Int) (c : Int) : hl 64 (xorUp (keyF key) c 64) = padL key c := by
  apply List.ext_getElem?
  intro i
  have hz : (zpad (hk key)).length = 64 := zpad_len (hk_len key)
  by_cases hi : i < 64
  · unfold hl padL xorL xorUp keyF
    simp [hi, hz, List.getD_eq_getElem?_getD]
  · rw [List.getElem?_eq_none (by rw [hl_len]; omega), List.getElem?_eq_none (by rw [padL_len]; omega)]
theorem Tryd.bs36 (a b : Option Addr) (n c n2 c2 : Nat) (w : World) : (Instr.buildSlice 38 2 #[(0, .slice a n c), (1, .slice b n2 c2)]).run Tryd.prog w = .ok (.slice (some ⟨w.heap.size, 0, none⟩) 2 2) (w.alloc (.cells #[.slice a n c, .slice b n2 c2] 22)) := by kernel_rfl
theorem Tryd.enter18 (w : World) (vs : Array Value) : (callFunc 18 vs).run Tryd.prog w = .ok (.enter 18 vs) w := by kernel_rfl
theorem Tryd.enter19 (w : World) (vs : Array Value) : (callFunc 19 vs).run Tryd.prog w = .ok (.enter 19 vs) w := by kernel_rfl
theorem Tryd.enter20 (w : World) (vs : Array Value) : (callFunc 20 vs).run Tryd.prog w = .ok (.enter 20 vs) w := by kernel_rfl
def two {α : Type} (x y : α) : Nat → α := fun i => if i = 0 then x else y
theorem concat_two (l m : List Int) : concat (two l m) 2 = l ++ m := by simp [concat, two]
theorem rows_two {w : World} {g : Nat} {x y : Value} {l m : List Int} (h : Blk w g 22 #[x, y]) (hx : RowAt w x l) (hy : RowAt w y m) : RowsAt w (.slice (some ⟨g, 0, none⟩) 2 2) 2 (two x y) (two l m) where
  form := .inr ⟨g, 0, 2, rfl, fun i hi => by
    rw [Nat.zero_add, h.cell]
    match i, hi with
    | 0, _ => rfl
    | 1, _ => rfl⟩
  row i hi := by
    match i, hi with
    | 0, _ => exact hx
    | 1, _ => exact hy
theorem wp_bs {P : Program} {o : Oper} {a : Act} {w : World} {K : Act → World → Prop} {Q : Exit → Act → World → Prop} (t : TypeId) (n : Nat) (parts : Array (Nat × Operand)) (ho : o.op = .buildSlice t n parts)
    (vs : Array (Nat × Value)) (hv : (parts.map fun (i, x) => (i, a.eval x)) = vs) (v : Value) (w' : World) (hrun : (Instr.buildSlice t n vs).run P w = .ok v w') (h : K (a.put o.dst v) w') : o.wp P a w K Q := by
  unfold Oper.wp execOp
  simp only [ho, hv, Sem.run_bind, hrun, Result.andThen_ok]
  exact h
theorem all_two {w : World} {g : Nat} {x y : Value} {l m : List Int} (h : Blk w g 22 #[x, y]) (hx : RowAt w x l) (hy : RowAt w y m) (hl : l.length + m.length ≤ 140737488355000) :
    Calls Tryd.prog 20 #[.slice (some ⟨g, 0, none⟩) 2 2] w fun e w' => e = .returned (.agg (bytesA 32 (shaP (l ++ m)))) ∧ Below w.heap.size w w' := by
  have h1 := ofAll_rows _ 2 _ _ w (rows_two h hx hy) (by omega) (by rw [concat_two, List.length_append]; exact hl)
  rw [concat_two] at h1
  exact h1

set_option maxRecDepth 8000 in
set_option maxHeartbeats 4000000 in
theorem mac_ok : MacOk := by
  intro vk vb key b w hk hb hkl hbl
  have HRk := Keep.mk hk
  have HRb := Keep.mk hb
  have HKl := Keep.mk hkl
  have HBl := Keep.mk hbl
  obtain ⟨ka, kc, rfl⟩ := row_form hk
  obtain ⟨ba, bc, rfl⟩ := row_form hb
  clear hk hb hkl hbl
  go_enter Tryd.func13, Tryd.ntmps13
  go_wp2_with (first | (refine wpList_new rfl 40 rfl _ Tryd.new40 ?_; refine Hid.out ?_))
  refine hid_in ?_
  have HR0 := Keep.mk (Blk.new w 40 (bytesA 32 fun _ => 0))
  have HB0 := Keep.mk (below_new w (.cells (bytesA 32 fun _ => 0) 40))
  obtain ⟨g4, hg4⟩ : ∃ g4, Keep (g4 = w.heap.size) := ⟨_, ⟨rfl⟩⟩
  rw [← hg4.out] at HR0 ⊢
  generalize w.alloc (.cells (bytesA 32 fun _ => 0) 40) = w0 at *
  go_wp2_with fail
  refine (blockOf_any _ key w0 (HRk.out.below HB0.out) HKl.out).mono ?_
  rintro e w1 ⟨rfl, hb1⟩
  obtain ⟨ck, Hck⟩ : ∃ ck, Keep (ck = bytesA 64 (keyF key)) := ⟨_, ⟨rfl⟩⟩
  have HIck : Keep ((Tryd.prog.info? 50).map (·.size) = some ck.size) := ⟨by rw [Hck.out]; exact Tryd.size50B _⟩
  have HZck : Keep ((bytesA 64 fun _ => 0).size = ck.size) := ⟨by rw [Hck.out]; exact bytesA_sizes _ _ _⟩
  have HOck : Keep (ck.all (·.oneCell') = true) := ⟨by rw [Hck.out]; exact bytesA_one _ _⟩
  rw [← Hck.out]
  have HR1 := Keep.mk (HR0.out.below hb1 HR0.out.lt)
  have HB1 := Keep.mk (HB0.out.trans (hb1.mono HB0.out.size))
  clear hb1 HR0 HB0
  go_wp2_with (first | (refine wpList_new rfl 50 rfl _ Tryd.new50 ?_; refine Hid.out ?_))
  refine hid_in ?_
  have HNb := Keep.mk (Blk.new w1 50 (bytesA 64 fun _ => 0))
  have HAb := Keep.mk (below_new w1 (.cells (bytesA 64 fun _ => 0) 50))
  obtain ⟨g5, hg5⟩ : ∃ g5, Keep (g5 = w1.heap.size) := ⟨_, ⟨rfl⟩⟩
  rw [← hg5.out] at HNb ⊢
  generalize w1.alloc (.cells (bytesA 64 fun _ => 0) 50) = wa at *
  go_wp2_with (first | (refine wpList_store_row rfl 50 (.tmp 5) (.tmp 10) rfl g5 ck rfl rfl 50 (bytesA 64 fun _ => 0) HNb.out HIck.out HZck.out HOck.out ?_; refine Hid.out ?_))
  refine hid_in ?_
  have hb2 := below_setRow HAb.out (show w1.heap.size ≤ g5 from Nat.le_of_eq hg5.out.symm) ck
  have HK2 := Keep.mk (HNb.out.setRow ck)
  have HR2 := Keep.mk (HR1.out.below hb2 HR1.out.lt)
  have HB2 := Keep.mk (HB1.out.trans (hb2.mono HB1.out.size))
  generalize wa.setRow g5 ck = w2 at *
  clear hb2 HNb HAb HR1 HB1 hg5
  obtain ⟨c1, Hc1⟩ : ∃ c1, Keep (c1 = bytesA 64 (xorUp (keyF key) 54 64)) := ⟨_, ⟨rfl⟩⟩
  have HIc1 : Keep ((Tryd.prog.info? 50).map (·.size) = some c1.size) := ⟨by rw [Hc1.out]; exact Tryd.size50B _⟩
  have HZc1 : Keep ((bytesA 64 fun _ => 0).size = c1.size) := ⟨by rw [Hc1.out]; exact bytesA_sizes _ _ _⟩
  have HOc1 : Keep (c1.all (·.oneCell') = true) := ⟨by rw [Hc1.out]; exact bytesA_one _ _⟩
  obtain ⟨c2, Hc2⟩ : ∃ c2, Keep (c2 = bytesA 64 (xorUp (keyF key) 92 64)) := ⟨_, ⟨rfl⟩⟩
  have HIc2 : Keep ((Tryd.prog.info? 50).map (·.size) = some c2.size) := ⟨by rw [Hc2.out]; exact Tryd.size50B _⟩
  have HZc2 : Keep ((bytesA 64 fun _ => 0).size = c2.size) := ⟨by rw [Hc2.out]; exact bytesA_sizes _ _ _⟩
  have HOc2 : Keep (c2.all (·.oneCell') = true) := ⟨by rw [Hc2.out]; exact bytesA_one _ _⟩
  have HXc1 : Keep (∀ wx, Calls Tryd.prog 19 #[.agg ck, .int .u8 54] wx fun e w' => e = .returned (.agg c1) ∧ Below wx.heap.size wx w') := ⟨fun wx => by rw [Hck.out, Hc1.out]; exact blkXor_any _ _ wx⟩
  have HXc2 : Keep (∀ wx, Calls Tryd.prog 19 #[.agg ck, .int .u8 92] wx fun e w' => e = .returned (.agg c2) ∧ Below wx.heap.size wx w') := ⟨fun wx => by rw [Hck.out, Hc2.out]; exact blkXor_any _ _ wx⟩
  obtain ⟨CK, hCK⟩ : ∃ CK, Keep (CK = ck.toList) := ⟨_, ⟨rfl⟩⟩
  have hCA : CK.toArray = ck := by rw [hCK.out]
  have hi : (Tryd.prog.info? 50).map (·.size) = some CK.length := by rw [hCK.out, Array.length_toList]; exact HIck.out
  have hu := Tryd.underlying50
  have HS : Keep (∀ wx, Below w2.heap.size w2 wx → wx.rangeAt g5 0 CK) := ⟨fun wx hx => by rw [hCK.out]; exact blk_range (HK2.out.below hx HK2.out.lt)⟩
  go_wp2_with fail
  go_cut [6, 7] from 11 to 14 (fun s6 s7 wx => ∃ g6 g7, s6 = ptr g6 ∧ s7 = ptr g7 ∧ Blk wx g6 50 c1 ∧ Blk wx g7 50 c2 ∧ Below w2.heap.size w2 wx)
  case first =>
    have hD0 : Below w2.heap.size w2 w2.drew := (Below.refl _ _).drew
    refine wp_region_held_drew (S := fun wx => wx.rangeAt g5 0 CK) (by kernel_rfl) (HS.out _ hD0) (fun hHeld => ?_)
    generalize w2.drew = wd at *
    refine wpAnyH_take (i := 0) (oi := ⟨some 11, Op.load 50 (Operand.tmp 5), 50, _, _, none⟩) (v := .agg (CK).toArray) rfl (by kernel_rfl) (by kernel_rfl) (by kernel_rfl) (fun _ _ _ h => h) (yieldsIf_load_mid (by rfl) 50 (Operand.tmp 5) rfl g5 0 rfl CK _ (fun w hS => hS) hu rfl hi) hHeld ?_
    simp only [Act.put, List.setIfInBounds_toArray, List.set_cons_zero, List.set_cons_succ]
    refine wpAnyH_take (i := 2) (oi := ⟨some 13, Op.load 50 (Operand.tmp 5), 50, _, _, none⟩) (v := .agg (CK).toArray) rfl (by kernel_rfl) (by kernel_rfl) (by kernel_rfl) (fun _ _ _ h => h) (yieldsIf_load_mid (by rfl) 50 (Operand.tmp 5) rfl g5 0 rfl CK _ (fun w hS => hS) hu rfl hi) hHeld ?_
    simp only [Act.put, List.setIfInBounds_toArray, List.set_cons_zero, List.set_cons_succ]
    rw [hCA]
    refine wpAnyH_ready (rs := [1, 4, 5]) (by kernel_rfl) (by simp) ?_
    refine AllReadyH.cons (o := ⟨some 12, Op.call { callee := Callee.value (Operand.func 19), args := #[Operand.tmp 11, Operand.const (Value.int IntKind.u8 54)], argTypes := #[50, 5] }, 50, _, _, none⟩) rfl (fun K hK => ?_) (AllReadyH.cons (o := ⟨some 6, Op.alloc 50, 0, _, _, none⟩) rfl (fun K hK => ?_) (AllReadyH.cons (o := ⟨some 7, Op.alloc 50, 0, _, _, none⟩) rfl (fun K hK => ?_) (AllReadyH.nil)))
    all_goals rw [if_pos (by rfl)]
    · refine wp_callF 19 _ _ rfl Tryd.enter19 #[.agg ck, .int .u8 54] (by simp [Act.eval]) (fun vz wz => vz = .agg c1 ∧ Below w2.heap.size w2 wz ∧ Below wd.heap.size wd wz) ?_ ?_
      · refine (HXc1.out wd).mono ?_
        rintro e wz ⟨rfl, hbz⟩
        exact ⟨_, rfl, rfl, hD0.trans (hbz.mono hD0.size), hbz⟩
      rintro vz v1 ⟨rfl, hb1, hc1⟩
      refine hK.out _ _ (HS.out _ hb1) fun hHeld1 => ?_
      clear hK
      simp only [Act.put, List.setIfInBounds_toArray, List.set_cons_zero, List.set_cons_succ]
      refine wpAnyH_ready (rs := [3, 4, 5]) (by kernel_rfl) (by simp) ?_
      refine AllReadyH.cons (o := ⟨some 14, Op.call { callee := Callee.value (Operand.func 19), args := #[Operand.tmp 13, Operand.const (Value.int IntKind.u8 92)], argTypes := #[50, 5] }, 50, _, _, none⟩) rfl (fun K hK => ?_) (AllReadyH.cons (o := ⟨some 6, Op.alloc 50, 0, _, _, none⟩) rfl (fun K hK => ?_) (AllReadyH.cons (o := ⟨some 7, Op.alloc 50, 0, _, _, none⟩) rfl (fun K hK => ?_) (AllReadyH.nil)))
      all_goals rw [if_pos (by rfl)]
      · refine wp_callF 19 _ _ rfl Tryd.enter19 #[.agg ck, .int .u8 92] (by simp [Act.eval]) (fun vz wz => vz = .agg c2 ∧ Below w2.heap.size w2 wz ∧ Below v1.heap.size v1 wz) ?_ ?_
        · refine (HXc2.out v1).mono ?_
          rintro e wz ⟨rfl, hbz⟩
          exact ⟨_, rfl, rfl, hb1.trans (hbz.mono hb1.size), hbz⟩
        rintro vz v2 ⟨rfl, hb2, hc2⟩
        refine hK.out _ _ (HS.out _ hb2) fun hHeld2 => ?_
        clear hK
        simp only [Act.put, List.setIfInBounds_toArray, List.set_cons_zero, List.set_cons_succ]
        refine wpAnyH_ready (rs := [4, 5]) (by kernel_rfl) (by simp) ?_
        refine AllReadyH.cons (o := ⟨some 6, Op.alloc 50, 0, _, _, none⟩) rfl (fun K hK => ?_) (AllReadyH.cons (o := ⟨some 7, Op.alloc 50, 0, _, _, none⟩) rfl (fun K hK => ?_) (AllReadyH.nil))
        all_goals rw [if_pos (by rfl)]
        · refine wp_newA 50 rfl _ Tryd.new50 ?_
          have hN4_3 := Blk.new v2 50 (bytesA 64 fun _ => 0)
          have hb3 : Below w2.heap.size w2 (v2.alloc (.cells (bytesA 64 fun _ => 0) 50)) := hb2.alloc hb2.size _
          refine hK.out _ _ (HS.out _ hb3) fun hHeld3 => ?_
          clear hK
          simp only [Act.put, List.setIfInBounds_toArray, List.set_cons_zero, List.set_cons_succ]
          generalize v2.alloc (.cells (bytesA 64 fun _ => 0) 50) = v3 at *
          refine wpAnyH_ready (rs := [5]) (by kernel_rfl) (by simp) ?_
          refine AllReadyH.cons (o := ⟨some 7, Op.alloc 50, 0, _, _, none⟩) rfl (fun K hK => ?_) (AllReadyH.nil)
          all_goals rw [if_pos (by rfl)]
          · refine wp_newA 50 rfl _ Tryd.new50 ?_
            have hN5_4 := Blk.new v3 50 (bytesA 64 fun _ => 0)
            have hb4 : Below w2.heap.size w2 (v3.alloc (.cells (bytesA 64 fun _ => 0) 50)) := hb3.alloc hb3.size _
            have hN4_4 := hN4_3.alloc (.cells (bytesA 64 fun _ => 0) 50)
            have hne_4 := hN4_3.lt
            refine hK.out _ _ (HS.out _ hb4) fun hHeld4 => ?_
            clear hK
            simp only [Act.put, List.setIfInBounds_toArray, List.set_cons_zero, List.set_cons_succ]
            generalize v3.alloc (.cells (bytesA 64 fun _ => 0) 50) = v4 at *
            have hlow6 : w2.heap.size ≤ v2.heap.size := hb2.size
            have hlow7 : w2.heap.size ≤ v3.heap.size := hb3.size
            have hn67 : v3.heap.size ≠ v2.heap.size := by omega
            refine wpAnyH_ready (rs := [6]) (by kernel_rfl) (by simp) ?_
            refine AllReadyH.cons (o := ⟨none, Op.store 50 (Operand.tmp 6) (Operand.tmp 12), 0, _, _, none⟩) rfl (fun K hK => ?_) AllReadyH.nil
            rw [if_pos (by rfl)]
            refine wp_store_row 50 (.tmp 6) (.tmp 12) rfl (v2.heap.size) c1 rfl rfl 50 (bytesA 64 fun _ => 0) hN4_4 HIc1.out HZc1.out HOc1.out ?_
            have hbs := below_setRow hb4 hlow6 c1
            refine hK.out _ _ (HS.out _ hbs) fun hHeldx => ?_
            clear hK
            simp only [Act.put]
            refine wpAnyH_ready (rs := [7]) (by kernel_rfl) (by simp) ?_
            refine AllReadyH.cons (o := ⟨none, Op.store 50 (Operand.tmp 7) (Operand.tmp 14), 0, _, _, none⟩) rfl (fun K hK => ?_) AllReadyH.nil
            rw [if_pos (by rfl)]
            refine wp_store_row 50 (.tmp 7) (.tmp 14) rfl (v3.heap.size) c2 rfl rfl 50 (bytesA 64 fun _ => 0) (hN5_4.setRow_ne (b' := v2.heap.size) hn67 c1) HIc2.out HZc2.out HOc2.out ?_
            have hbt := below_setRow hbs hlow7 c2
            refine hK.out _ _ (HS.out _ hbt) fun hHeldy => ?_
            clear hK
            refine wpAnyH_done (by kernel_rfl) ?_ _
            go_wp2_with fail
            go_meet
            case rel => exact ⟨v2.heap.size, v3.heap.size, rfl, rfl, (hN4_4.setRow c1).setRow_ne (b' := v3.heap.size) hn67.symm c2, (hN5_4.setRow_ne (b' := v2.heap.size) hn67 c1).setRow c2, hbt⟩
        · refine wp_newA 50 rfl _ Tryd.new50 ?_
          have hN5_5 := Blk.new v2 50 (bytesA 64 fun _ => 0)
          have hb5 : Below w2.heap.size w2 (v2.alloc (.cells (bytesA 64 fun _ => 0) 50)) := hb2.alloc hb2.size _
          refine hK.out _ _ (HS.out _ hb5) fun hHeld5 => ?_
          clear hK
          simp only [Act.put, List.setIfInBounds_toArray, List.set_cons_zero, List.set_cons_succ]
          generalize v2.alloc (.cells (bytesA 64 fun _ => 0) 50) = v5 at *
          refine wpAnyH_ready (rs := [4]) (by kernel_rfl) (by simp) ?_
          refine AllReadyH.cons (o := ⟨some 6, Op.alloc 50, 0, _, _, none⟩) rfl (fun K hK => ?_) (AllReadyH.nil)
          all_goals rw [if_pos (by rfl)]
          · refine wp_newA 50 rfl _ Tryd.new50 ?_
            have hN4_6 := Blk.new v5 50 (bytesA 64 fun _ => 0)
            have hb6 : Below w2.heap.size w2 (v5.alloc (.cells (bytesA 64 fun _ => 0) 50)) := hb5.alloc hb5.size _
            have hN5_6 := hN5_5.alloc (.cells (bytesA 64 fun _ => 0) 50)
            have hne_6 := hN5_5.lt
            refine hK.out _ _ (HS.out _ hb6) fun hHeld6 => ?_
            clear hK
            simp only [Act.put, List.setIfInBounds_toArray, List.set_cons_zero, List.set_cons_succ]
            generalize v5.alloc (.cells (bytesA 64 fun _ => 0) 50) = v6 at *
            have hlow6 : w2.heap.size ≤ v5.heap.size := hb5.size
            have hlow7 : w2.heap.size ≤ v2.heap.size := hb2.size
            have hn67 : v2.heap.size ≠ v5.heap.size := by omega
            refine wpAnyH_ready (rs := [6]) (by kernel_rfl) (by simp) ?_
            refine AllReadyH.cons (o := ⟨none, Op.store 50 (Operand.tmp 6) (Operand.tmp 12), 0, _, _, none⟩) rfl (fun K hK => ?_) AllReadyH.nil
            rw [if_pos (by rfl)]
            refine wp_store_row 50 (.tmp 6) (.tmp 12) rfl (v5.heap.size) c1 rfl rfl 50 (bytesA 64 fun _ => 0) hN4_6 HIc1.out HZc1.out HOc1.out ?_
            have hbs := below_setRow hb6 hlow6 c1
            refine hK.out _ _ (HS.out _ hbs) fun hHeldx => ?_
            clear hK
            simp only [Act.put]
            refine wpAnyH_ready (rs := [7]) (by kernel_rfl) (by simp) ?_
            refine AllReadyH.cons (o := ⟨none, Op.store 50 (Operand.tmp 7) (Operand.tmp 14), 0, _, _, none⟩) rfl (fun K hK => ?_) AllReadyH.nil
            rw [if_pos (by rfl)]
            refine wp_store_row 50 (.tmp 7) (.tmp 14) rfl (v2.heap.size) c2 rfl rfl 50 (bytesA 64 fun _ => 0) (hN5_6.setRow_ne (b' := v5.heap.size) hn67 c1) HIc2.out HZc2.out HOc2.out ?_
            have hbt := below_setRow hbs hlow7 c2
            refine hK.out _ _ (HS.out _ hbt) fun hHeldy => ?_
            clear hK
            refine wpAnyH_done (by kernel_rfl) ?_ _
            go_wp2_with fail
            go_meet
            case rel => exact ⟨v5.heap.size, v2.heap.size, rfl, rfl, (hN4_6.setRow c1).setRow_ne (b' := v2.heap.size) hn67.symm c2, (hN5_6.setRow_ne (b' := v5.heap.size) hn67 c1).setRow c2, hbt⟩
      · refine wp_newA 50 rfl _ Tryd.new50 ?_
        have hN4_7 := Blk.new v1 50 (bytesA 64 fun _ => 0)
        have hb7 : Below w2.heap.size w2 (v1.alloc (.cells (bytesA 64 fun _ => 0) 50)) := hb1.alloc hb1.size _
        refine hK.out _ _ (HS.out _ hb7) fun hHeld7 => ?_
        clear hK
        simp only [Act.put, List.setIfInBounds_toArray, List.set_cons_zero, List.set_cons_succ]
        generalize v1.alloc (.cells (bytesA 64 fun _ => 0) 50) = v7 at *
        refine wpAnyH_ready (rs := [3, 5]) (by kernel_rfl) (by simp) ?_
        refine AllReadyH.cons (o := ⟨some 14, Op.call { callee := Callee.value (Operand.func 19), args := #[Operand.tmp 13, Operand.const (Value.int IntKind.u8 92)], argTypes := #[50, 5] }, 50, _, _, none⟩) rfl (fun K hK => ?_) (AllReadyH.cons (o := ⟨some 7, Op.alloc 50, 0, _, _, none⟩) rfl (fun K hK => ?_) (AllReadyH.nil))
        all_goals rw [if_pos (by rfl)]
        · refine wp_callF 19 _ _ rfl Tryd.enter19 #[.agg ck, .int .u8 92] (by simp [Act.eval]) (fun vz wz => vz = .agg c2 ∧ Below w2.heap.size w2 wz ∧ Below v7.heap.size v7 wz) ?_ ?_
          · refine (HXc2.out v7).mono ?_
            rintro e wz ⟨rfl, hbz⟩
            exact ⟨_, rfl, rfl, hb7.trans (hbz.mono hb7.size), hbz⟩
          rintro vz v8 ⟨rfl, hb8, hc8⟩
          refine hK.out _ _ (HS.out _ hb8) fun hHeld8 => ?_
          clear hK
          simp only [Act.put, List.setIfInBounds_toArray, List.set_cons_zero, List.set_cons_succ]
          have hN4_8 := hN4_7.below hc8 hN4_7.lt
          refine wpAnyH_ready (rs := [5]) (by kernel_rfl) (by simp) ?_
          refine AllReadyH.cons (o := ⟨some 7, Op.alloc 50, 0, _, _, none⟩) rfl (fun K hK => ?_) (AllReadyH.nil)
          all_goals rw [if_pos (by rfl)]
          · refine wp_newA 50 rfl _ Tryd.new50 ?_
            have hN5_9 := Blk.new v8 50 (bytesA 64 fun _ => 0)
            have hb9 : Below w2.heap.size w2 (v8.alloc (.cells (bytesA 64 fun _ => 0) 50)) := hb8.alloc hb8.size _
            have hN4_9 := hN4_8.alloc (.cells (bytesA 64 fun _ => 0) 50)
            have hne_9 := hN4_8.lt
            refine hK.out _ _ (HS.out _ hb9) fun hHeld9 => ?_
            clear hK
            simp only [Act.put, List.setIfInBounds_toArray, List.set_cons_zero, List.set_cons_succ]
            generalize v8.alloc (.cells (bytesA 64 fun _ => 0) 50) = v9 at *
            have hlow6 : w2.heap.size ≤ v1.heap.size := hb1.size
            have hlow7 : w2.heap.size ≤ v8.heap.size := hb8.size
            have hn67 : v8.heap.size ≠ v1.heap.size := by omega
            refine wpAnyH_ready (rs := [6]) (by kernel_rfl) (by simp) ?_
            refine AllReadyH.cons (o := ⟨none, Op.store 50 (Operand.tmp 6) (Operand.tmp 12), 0, _, _, none⟩) rfl (fun K hK => ?_) AllReadyH.nil
            rw [if_pos (by rfl)]
            refine wp_store_row 50 (.tmp 6) (.tmp 12) rfl (v1.heap.size) c1 rfl rfl 50 (bytesA 64 fun _ => 0) hN4_9 HIc1.out HZc1.out HOc1.out ?_
            have hbs := below_setRow hb9 hlow6 c1
            refine hK.out _ _ (HS.out _ hbs) fun hHeldx => ?_
            clear hK
            simp only [Act.put]
            refine wpAnyH_ready (rs := [7]) (by kernel_rfl) (by simp) ?_
            refine AllReadyH.cons (o := ⟨none, Op.store 50 (Operand.tmp 7) (Operand.tmp 14), 0, _, _, none⟩) rfl (fun K hK => ?_) AllReadyH.nil
            rw [if_pos (by rfl)]
            refine wp_store_row 50 (.tmp 7) (.tmp 14) rfl (v8.heap.size) c2 rfl rfl 50 (bytesA 64 fun _ => 0) (hN5_9.setRow_ne (b' := v1.heap.size) hn67 c1) HIc2.out HZc2.out HOc2.out ?_
            have hbt := below_setRow hbs hlow7 c2
            refine hK.out _ _ (HS.out _ hbt) fun hHeldy => ?_
            clear hK
            refine wpAnyH_done (by kernel_rfl) ?_ _
            go_wp2_with fail
            go_meet
            case rel => exact ⟨v1.heap.size, v8.heap.size, rfl, rfl, (hN4_9.setRow c1).setRow_ne (b' := v8.heap.size) hn67.symm c2, (hN5_9.setRow_ne (b' := v1.heap.size) hn67 c1).setRow c2, hbt⟩
        · refine wp_newA 50 rfl _ Tryd.new50 ?_
          have hN5_10 := Blk.new v7 50 (bytesA 64 fun _ => 0)
          have hb10 : Below w2.heap.size w2 (v7.alloc (.cells (bytesA 64 fun _ => 0) 50)) := hb7.alloc hb7.size _
          have hN4_10 := hN4_7.alloc (.cells (bytesA 64 fun _ => 0) 50)
          have hne_10 := hN4_7.lt
          refine hK.out _ _ (HS.out _ hb10) fun hHeld10 => ?_
          clear hK
          simp only [Act.put, List.setIfInBounds_toArray, List.set_cons_zero, List.set_cons_succ]
          generalize v7.alloc (.cells (bytesA 64 fun _ => 0) 50) = v10 at *
          refine wpAnyH_ready (rs := [3]) (by kernel_rfl) (by simp) ?_
          refine AllReadyH.cons (o := ⟨some 14, Op.call { callee := Callee.value (Operand.func 19), args := #[Operand.tmp 13, Operand.const (Value.int IntKind.u8 92)], argTypes := #[50, 5] }, 50, _, _, none⟩) rfl (fun K hK => ?_) (AllReadyH.nil)
          all_goals rw [if_pos (by rfl)]
          · refine wp_callF 19 _ _ rfl Tryd.enter19 #[.agg ck, .int .u8 92] (by simp [Act.eval]) (fun vz wz => vz = .agg c2 ∧ Below w2.heap.size w2 wz ∧ Below v10.heap.size v10 wz) ?_ ?_
            · refine (HXc2.out v10).mono ?_
              rintro e wz ⟨rfl, hbz⟩
              exact ⟨_, rfl, rfl, hb10.trans (hbz.mono hb10.size), hbz⟩
            rintro vz v11 ⟨rfl, hb11, hc11⟩
            refine hK.out _ _ (HS.out _ hb11) fun hHeld11 => ?_
            clear hK
            simp only [Act.put, List.setIfInBounds_toArray, List.set_cons_zero, List.set_cons_succ]
            have hN5_11 := hN5_10.below hc11 hN5_10.lt
            have hN4_11 := hN4_10.below hc11 hN4_10.lt
            have hlow6 : w2.heap.size ≤ v1.heap.size := hb1.size
            have hlow7 : w2.heap.size ≤ v7.heap.size := hb7.size
            have hn67 : v7.heap.size ≠ v1.heap.size := by omega
            refine wpAnyH_ready (rs := [6]) (by kernel_rfl) (by simp) ?_
            refine AllReadyH.cons (o := ⟨none, Op.store 50 (Operand.tmp 6) (Operand.tmp 12), 0, _, _, none⟩) rfl (fun K hK => ?_) AllReadyH.nil
            rw [if_pos (by rfl)]
            refine wp_store_row 50 (.tmp 6) (.tmp 12) rfl (v1.heap.size) c1 rfl rfl 50 (bytesA 64 fun _ => 0) hN4_11 HIc1.out HZc1.out HOc1.out ?_
            have hbs := below_setRow hb11 hlow6 c1
            refine hK.out _ _ (HS.out _ hbs) fun hHeldx => ?_
            clear hK
            simp only [Act.put]
            refine wpAnyH_ready (rs := [7]) (by kernel_rfl) (by simp) ?_
            refine AllReadyH.cons (o := ⟨none, Op.store 50 (Operand.tmp 7) (Operand.tmp 14), 0, _, _, none⟩) rfl (fun K hK => ?_) AllReadyH.nil
            rw [if_pos (by rfl)]
            refine wp_store_row 50 (.tmp 7) (.tmp 14) rfl (v7.heap.size) c2 rfl rfl 50 (bytesA 64 fun _ => 0) (hN5_11.setRow_ne (b' := v1.heap.size) hn67 c1) HIc2.out HZc2.out HOc2.out ?_
            have hbt := below_setRow hbs hlow7 c2
            refine hK.out _ _ (HS.out _ hbt) fun hHeldy => ?_
            clear hK
            refine wpAnyH_done (by kernel_rfl) ?_ _
            go_wp2_with fail
            go_meet
            case rel => exact ⟨v1.heap.size, v7.heap.size, rfl, rfl, (hN4_11.setRow c1).setRow_ne (b' := v7.heap.size) hn67.symm c2, (hN5_11.setRow_ne (b' := v1.heap.size) hn67 c1).setRow c2, hbt⟩
      · refine wp_newA 50 rfl _ Tryd.new50 ?_
        have hN5_12 := Blk.new v1 50 (bytesA 64 fun _ => 0)
        have hb12 : Below w2.heap.size w2 (v1.alloc (.cells (bytesA 64 fun _ => 0) 50)) := hb1.alloc hb1.size _
        refine hK.out _ _ (HS.out _ hb12) fun hHeld12 => ?_
        clear hK
        simp only [Act.put, List.setIfInBounds_toArray, List.set_cons_zero, List.set_cons_succ]
        generalize v1.alloc (.cells (bytesA 64 fun _ => 0) 50) = v12 at *
        refine wpAnyH_ready (rs := [3, 4]) (by kernel_rfl) (by simp) ?_
        refine AllReadyH.cons (o := ⟨some 14, Op.call { callee := Callee.value (Operand.func 19), args := #[Operand.tmp 13, Operand.const (Value.int IntKind.u8 92)], argTypes := #[50, 5] }, 50, _, _, none⟩) rfl (fun K hK => ?_) (AllReadyH.cons (o := ⟨some 6, Op.alloc 50, 0, _, _, none⟩) rfl (fun K hK => ?_) (AllReadyH.nil))
        all_goals rw [if_pos (by rfl)]
        · refine wp_callF 19 _ _ rfl Tryd.enter19 #[.agg ck, .int .u8 92] (by simp [Act.eval]) (fun vz wz => vz = .agg c2 ∧ Below w2.heap.size w2 wz ∧ Below v12.heap.size v12 wz) ?_ ?_
          · refine (HXc2.out v12).mono ?_
            rintro e wz ⟨rfl, hbz⟩
            exact ⟨_, rfl, rfl, hb12.trans (hbz.mono hb12.size), hbz⟩
          rintro vz v13 ⟨rfl, hb13, hc13⟩
          refine hK.out _ _ (HS.out _ hb13) fun hHeld13 => ?_
          clear hK
          simp only [Act.put, List.setIfInBounds_toArray, List.set_cons_zero, List.set_cons_succ]
          have hN5_13 := hN5_12.below hc13 hN5_12.lt
          refine wpAnyH_ready (rs := [4]) (by kernel_rfl) (by simp) ?_
          refine AllReadyH.cons (o := ⟨some 6, Op.alloc 50, 0, _, _, none⟩) rfl (fun K hK => ?_) (AllReadyH.nil)
          all_goals rw [if_pos (by rfl)]
          · refine wp_newA 50 rfl _ Tryd.new50 ?_
            have hN4_14 := Blk.new v13 50 (bytesA 64 fun _ => 0)
            have hb14 : Below w2.heap.size w2 (v13.alloc (.cells (bytesA 64 fun _ => 0) 50)) := hb13.alloc hb13.size _
            have hN5_14 := hN5_13.alloc (.cells (bytesA 64 fun _ => 0) 50)
            have hne_14 := hN5_13.lt
            refine hK.out _ _ (HS.out _ hb14) fun hHeld14 => ?_
            clear hK
            simp only [Act.put, List.setIfInBounds_toArray, List.set_cons_zero, List.set_cons_succ]
            generalize v13.alloc (.cells (bytesA 64 fun _ => 0) 50) = v14 at *
            have hlow6 : w2.heap.size ≤ v13.heap.size := hb13.size
            have hlow7 : w2.heap.size ≤ v1.heap.size := hb1.size
            have hn67 : v1.heap.size ≠ v13.heap.size := by omega
            refine wpAnyH_ready (rs := [6]) (by kernel_rfl) (by simp) ?_
            refine AllReadyH.cons (o := ⟨none, Op.store 50 (Operand.tmp 6) (Operand.tmp 12), 0, _, _, none⟩) rfl (fun K hK => ?_) AllReadyH.nil
            rw [if_pos (by rfl)]
            refine wp_store_row 50 (.tmp 6) (.tmp 12) rfl (v13.heap.size) c1 rfl rfl 50 (bytesA 64 fun _ => 0) hN4_14 HIc1.out HZc1.out HOc1.out ?_
            have hbs := below_setRow hb14 hlow6 c1
            refine hK.out _ _ (HS.out _ hbs) fun hHeldx => ?_
            clear hK
            simp only [Act.put]
            refine wpAnyH_ready (rs := [7]) (by kernel_rfl) (by simp) ?_
            refine AllReadyH.cons (o := ⟨none, Op.store 50 (Operand.tmp 7) (Operand.tmp 14), 0, _, _, none⟩) rfl (fun K hK => ?_) AllReadyH.nil
            rw [if_pos (by rfl)]
            refine wp_store_row 50 (.tmp 7) (.tmp 14) rfl (v1.heap.size) c2 rfl rfl 50 (bytesA 64 fun _ => 0) (hN5_14.setRow_ne (b' := v13.heap.size) hn67 c1) HIc2.out HZc2.out HOc2.out ?_
            have hbt := below_setRow hbs hlow7 c2
            refine hK.out _ _ (HS.out _ hbt) fun hHeldy => ?_
            clear hK
            refine wpAnyH_done (by kernel_rfl) ?_ _
            go_wp2_with fail
            go_meet
            case rel => exact ⟨v13.heap.size, v1.heap.size, rfl, rfl, (hN4_14.setRow c1).setRow_ne (b' := v1.heap.size) hn67.symm c2, (hN5_14.setRow_ne (b' := v13.heap.size) hn67 c1).setRow c2, hbt⟩
        · refine wp_newA 50 rfl _ Tryd.new50 ?_
          have hN4_15 := Blk.new v12 50 (bytesA 64 fun _ => 0)
          have hb15 : Below w2.heap.size w2 (v12.alloc (.cells (bytesA 64 fun _ => 0) 50)) := hb12.alloc hb12.size _
          have hN5_15 := hN5_12.alloc (.cells (bytesA 64 fun _ => 0) 50)
          have hne_15 := hN5_12.lt
          refine hK.out _ _ (HS.out _ hb15) fun hHeld15 => ?_
          clear hK
          simp only [Act.put, List.setIfInBounds_toArray, List.set_cons_zero, List.set_cons_succ]
          generalize v12.alloc (.cells (bytesA 64 fun _ => 0) 50) = v15 at *
          refine wpAnyH_ready (rs := [3]) (by kernel_rfl) (by simp) ?_
          refine AllReadyH.cons (o := ⟨some 14, Op.call { callee := Callee.value (Operand.func 19), args := #[Operand.tmp 13, Operand.const (Value.int IntKind.u8 92)], argTypes := #[50, 5] }, 50, _, _, none⟩) rfl (fun K hK => ?_) (AllReadyH.nil)
          all_goals rw [if_pos (by rfl)]
          · refine wp_callF 19 _ _ rfl Tryd.enter19 #[.agg ck, .int .u8 92] (by simp [Act.eval]) (fun vz wz => vz = .agg c2 ∧ Below w2.heap.size w2 wz ∧ Below v15.heap.size v15 wz) ?_ ?_
            · refine (HXc2.out v15).mono ?_
              rintro e wz ⟨rfl, hbz⟩
              exact ⟨_, rfl, rfl, hb15.trans (hbz.mono hb15.size), hbz⟩
            rintro vz v16 ⟨rfl, hb16, hc16⟩
            refine hK.out _ _ (HS.out _ hb16) fun hHeld16 => ?_
            clear hK
            simp only [Act.put, List.setIfInBounds_toArray, List.set_cons_zero, List.set_cons_succ]
            have hN4_16 := hN4_15.below hc16 hN4_15.lt
            have hN5_16 := hN5_15.below hc16 hN5_15.lt
            have hlow6 : w2.heap.size ≤ v12.heap.size := hb12.size
            have hlow7 : w2.heap.size ≤ v1.heap.size := hb1.size
            have hn67 : v1.heap.size ≠ v12.heap.size := by omega
            refine wpAnyH_ready (rs := [6]) (by kernel_rfl) (by simp) ?_
            refine AllReadyH.cons (o := ⟨none, Op.store 50 (Operand.tmp 6) (Operand.tmp 12), 0, _, _, none⟩) rfl (fun K hK => ?_) AllReadyH.nil
            rw [if_pos (by rfl)]
            refine wp_store_row 50 (.tmp 6) (.tmp 12) rfl (v12.heap.size) c1 rfl rfl 50 (bytesA 64 fun _ => 0) hN4_16 HIc1.out HZc1.out HOc1.out ?_
            have hbs := below_setRow hb16 hlow6 c1
            refine hK.out _ _ (HS.out _ hbs) fun hHeldx => ?_
            clear hK
            simp only [Act.put]
            refine wpAnyH_ready (rs := [7]) (by kernel_rfl) (by simp) ?_
            refine AllReadyH.cons (o := ⟨none, Op.store 50 (Operand.tmp 7) (Operand.tmp 14), 0, _, _, none⟩) rfl (fun K hK => ?_) AllReadyH.nil
            rw [if_pos (by rfl)]
            refine wp_store_row 50 (.tmp 7) (.tmp 14) rfl (v1.heap.size) c2 rfl rfl 50 (bytesA 64 fun _ => 0) (hN5_16.setRow_ne (b' := v12.heap.size) hn67 c1) HIc2.out HZc2.out HOc2.out ?_
            have hbt := below_setRow hbs hlow7 c2
            refine hK.out _ _ (HS.out _ hbt) fun hHeldy => ?_
            clear hK
            refine wpAnyH_done (by kernel_rfl) ?_ _
            go_wp2_with fail
            go_meet
            case rel => exact ⟨v12.heap.size, v1.heap.size, rfl, rfl, (hN4_16.setRow c1).setRow_ne (b' := v1.heap.size) hn67.symm c2, (hN5_16.setRow_ne (b' := v12.heap.size) hn67 c1).setRow c2, hbt⟩
    · refine wp_newA 50 rfl _ Tryd.new50 ?_
      have hN4_17 := Blk.new wd 50 (bytesA 64 fun _ => 0)
      have hb17 : Below w2.heap.size w2 (wd.alloc (.cells (bytesA 64 fun _ => 0) 50)) := hD0.alloc hD0.size _
      refine hK.out _ _ (HS.out _ hb17) fun hHeld17 => ?_
      clear hK
      simp only [Act.put, List.setIfInBounds_toArray, List.set_cons_zero, List.set_cons_succ]
      generalize wd.alloc (.cells (bytesA 64 fun _ => 0) 50) = v17 at *
      refine wpAnyH_ready (rs := [1, 5]) (by kernel_rfl) (by simp) ?_
      refine AllReadyH.cons (o := ⟨some 12, Op.call { callee := Callee.value (Operand.func 19), args := #[Operand.tmp 11, Operand.const (Value.int IntKind.u8 54)], argTypes := #[50, 5] }, 50, _, _, none⟩) rfl (fun K hK => ?_) (AllReadyH.cons (o := ⟨some 7, Op.alloc 50, 0, _, _, none⟩) rfl (fun K hK => ?_) (AllReadyH.nil))
      all_goals rw [if_pos (by rfl)]
      · refine wp_callF 19 _ _ rfl Tryd.enter19 #[.agg ck, .int .u8 54] (by simp [Act.eval]) (fun vz wz => vz = .agg c1 ∧ Below w2.heap.size w2 wz ∧ Below v17.heap.size v17 wz) ?_ ?_
        · refine (HXc1.out v17).mono ?_
          rintro e wz ⟨rfl, hbz⟩
          exact ⟨_, rfl, rfl, hb17.trans (hbz.mono hb17.size), hbz⟩
        rintro vz v18 ⟨rfl, hb18, hc18⟩
        refine hK.out _ _ (HS.out _ hb18) fun hHeld18 => ?_
        clear hK
        simp only [Act.put, List.setIfInBounds_toArray, List.set_cons_zero, List.set_cons_succ]
        have hN4_18 := hN4_17.below hc18 hN4_17.lt
        refine wpAnyH_ready (rs := [3, 5]) (by kernel_rfl) (by simp) ?_
        refine AllReadyH.cons (o := ⟨some 14, Op.call { callee := Callee.value (Operand.func 19), args := #[Operand.tmp 13, Operand.const (Value.int IntKind.u8 92)], argTypes := #[50, 5] }, 50, _, _, none⟩) rfl (fun K hK => ?_) (AllReadyH.cons (o := ⟨some 7, Op.alloc 50, 0, _, _, none⟩) rfl (fun K hK => ?_) (AllReadyH.nil))
        all_goals rw [if_pos (by rfl)]
        · refine wp_callF 19 _ _ rfl Tryd.enter19 #[.agg ck, .int .u8 92] (by simp [Act.eval]) (fun vz wz => vz = .agg c2 ∧ Below w2.heap.size w2 wz ∧ Below v18.heap.size v18 wz) ?_ ?_
          · refine (HXc2.out v18).mono ?_
            rintro e wz ⟨rfl, hbz⟩
            exact ⟨_, rfl, rfl, hb18.trans (hbz.mono hb18.size), hbz⟩
          rintro vz v19 ⟨rfl, hb19, hc19⟩
          refine hK.out _ _ (HS.out _ hb19) fun hHeld19 => ?_
          clear hK
          simp only [Act.put, List.setIfInBounds_toArray, List.set_cons_zero, List.set_cons_succ]
          have hN4_19 := hN4_18.below hc19 hN4_18.lt
          refine wpAnyH_ready (rs := [5]) (by kernel_rfl) (by simp) ?_
          refine AllReadyH.cons (o := ⟨some 7, Op.alloc 50, 0, _, _, none⟩) rfl (fun K hK => ?_) (AllReadyH.nil)
          all_goals rw [if_pos (by rfl)]
          · refine wp_newA 50 rfl _ Tryd.new50 ?_
            have hN5_20 := Blk.new v19 50 (bytesA 64 fun _ => 0)
            have hb20 : Below w2.heap.size w2 (v19.alloc (.cells (bytesA 64 fun _ => 0) 50)) := hb19.alloc hb19.size _
            have hN4_20 := hN4_19.alloc (.cells (bytesA 64 fun _ => 0) 50)
            have hne_20 := hN4_19.lt
            refine hK.out _ _ (HS.out _ hb20) fun hHeld20 => ?_
            clear hK
            simp only [Act.put, List.setIfInBounds_toArray, List.set_cons_zero, List.set_cons_succ]
            generalize v19.alloc (.cells (bytesA 64 fun _ => 0) 50) = v20 at *
            have hlow6 : w2.heap.size ≤ wd.heap.size := hD0.size
            have hlow7 : w2.heap.size ≤ v19.heap.size := hb19.size
            have hn67 : v19.heap.size ≠ wd.heap.size := by omega
            refine wpAnyH_ready (rs := [6]) (by kernel_rfl) (by simp) ?_
            refine AllReadyH.cons (o := ⟨none, Op.store 50 (Operand.tmp 6) (Operand.tmp 12), 0, _, _, none⟩) rfl (fun K hK => ?_) AllReadyH.nil
            rw [if_pos (by rfl)]
            refine wp_store_row 50 (.tmp 6) (.tmp 12) rfl (wd.heap.size) c1 rfl rfl 50 (bytesA 64 fun _ => 0) hN4_20 HIc1.out HZc1.out HOc1.out ?_
            have hbs := below_setRow hb20 hlow6 c1
            refine hK.out _ _ (HS.out _ hbs) fun hHeldx => ?_
            clear hK
            simp only [Act.put]
            refine wpAnyH_ready (rs := [7]) (by kernel_rfl) (by simp) ?_
            refine AllReadyH.cons (o := ⟨none, Op.store 50 (Operand.tmp 7) (Operand.tmp 14), 0, _, _, none⟩) rfl (fun K hK => ?_) AllReadyH.nil
            rw [if_pos (by rfl)]
            refine wp_store_row 50 (.tmp 7) (.tmp 14) rfl (v19.heap.size) c2 rfl rfl 50 (bytesA 64 fun _ => 0) (hN5_20.setRow_ne (b' := wd.heap.size) hn67 c1) HIc2.out HZc2.out HOc2.out ?_
            have hbt := below_setRow hbs hlow7 c2
            refine hK.out _ _ (HS.out _ hbt) fun hHeldy => ?_
            clear hK
            refine wpAnyH_done (by kernel_rfl) ?_ _
            go_wp2_with fail
            go_meet
            case rel => exact ⟨wd.heap.size, v19.heap.size, rfl, rfl, (hN4_20.setRow c1).setRow_ne (b' := v19.heap.size) hn67.symm c2, (hN5_20.setRow_ne (b' := wd.heap.size) hn67 c1).setRow c2, hbt⟩
        · refine wp_newA 50 rfl _ Tryd.new50 ?_
          have hN5_21 := Blk.new v18 50 (bytesA 64 fun _ => 0)
          have hb21 : Below w2.heap.size w2 (v18.alloc (.cells (bytesA 64 fun _ => 0) 50)) := hb18.alloc hb18.size _
          have hN4_21 := hN4_18.alloc (.cells (bytesA 64 fun _ => 0) 50)
          have hne_21 := hN4_18.lt
          refine hK.out _ _ (HS.out _ hb21) fun hHeld21 => ?_
          clear hK
          simp only [Act.put, List.setIfInBounds_toArray, List.set_cons_zero, List.set_cons_succ]
          generalize v18.alloc (.cells (bytesA 64 fun _ => 0) 50) = v21 at *
          refine wpAnyH_ready (rs := [3]) (by kernel_rfl) (by simp) ?_
          refine AllReadyH.cons (o := ⟨some 14, Op.call { callee := Callee.value (Operand.func 19), args := #[Operand.tmp 13, Operand.const (Value.int IntKind.u8 92)], argTypes := #[50, 5] }, 50, _, _, none⟩) rfl (fun K hK => ?_) (AllReadyH.nil)
          all_goals rw [if_pos (by rfl)]
          · refine wp_callF 19 _ _ rfl Tryd.enter19 #[.agg ck, .int .u8 92] (by simp [Act.eval]) (fun vz wz => vz = .agg c2 ∧ Below w2.heap.size w2 wz ∧ Below v21.heap.size v21 wz) ?_ ?_
            · refine (HXc2.out v21).mono ?_
              rintro e wz ⟨rfl, hbz⟩
              exact ⟨_, rfl, rfl, hb21.trans (hbz.mono hb21.size), hbz⟩
            rintro vz v22 ⟨rfl, hb22, hc22⟩
            refine hK.out _ _ (HS.out _ hb22) fun hHeld22 => ?_
            clear hK
            simp only [Act.put, List.setIfInBounds_toArray, List.set_cons_zero, List.set_cons_succ]
            have hN5_22 := hN5_21.below hc22 hN5_21.lt
            have hN4_22 := hN4_21.below hc22 hN4_21.lt
            have hlow6 : w2.heap.size ≤ wd.heap.size := hD0.size
            have hlow7 : w2.heap.size ≤ v18.heap.size := hb18.size
            have hn67 : v18.heap.size ≠ wd.heap.size := by omega
            refine wpAnyH_ready (rs := [6]) (by kernel_rfl) (by simp) ?_
            refine AllReadyH.cons (o := ⟨none, Op.store 50 (Operand.tmp 6) (Operand.tmp 12), 0, _, _, none⟩) rfl (fun K hK => ?_) AllReadyH.nil
            rw [if_pos (by rfl)]
            refine wp_store_row 50 (.tmp 6) (.tmp 12) rfl (wd.heap.size) c1 rfl rfl 50 (bytesA 64 fun _ => 0) hN4_22 HIc1.out HZc1.out HOc1.out ?_
            have hbs := below_setRow hb22 hlow6 c1
            refine hK.out _ _ (HS.out _ hbs) fun hHeldx => ?_
            clear hK
            simp only [Act.put]
            refine wpAnyH_ready (rs := [7]) (by kernel_rfl) (by simp) ?_
            refine AllReadyH.cons (o := ⟨none, Op.store 50 (Operand.tmp 7) (Operand.tmp 14), 0, _, _, none⟩) rfl (fun K hK => ?_) AllReadyH.nil
            rw [if_pos (by rfl)]
            refine wp_store_row 50 (.tmp 7) (.tmp 14) rfl (v18.heap.size) c2 rfl rfl 50 (bytesA 64 fun _ => 0) (hN5_22.setRow_ne (b' := wd.heap.size) hn67 c1) HIc2.out HZc2.out HOc2.out ?_
            have hbt := below_setRow hbs hlow7 c2
            refine hK.out _ _ (HS.out _ hbt) fun hHeldy => ?_
            clear hK
            refine wpAnyH_done (by kernel_rfl) ?_ _
            go_wp2_with fail
            go_meet
            case rel => exact ⟨wd.heap.size, v18.heap.size, rfl, rfl, (hN4_22.setRow c1).setRow_ne (b' := v18.heap.size) hn67.symm c2, (hN5_22.setRow_ne (b' := wd.heap.size) hn67 c1).setRow c2, hbt⟩
      · refine wp_newA 50 rfl _ Tryd.new50 ?_
        have hN5_23 := Blk.new v17 50 (bytesA 64 fun _ => 0)
        have hb23 : Below w2.heap.size w2 (v17.alloc (.cells (bytesA 64 fun _ => 0) 50)) := hb17.alloc hb17.size _
        have hN4_23 := hN4_17.alloc (.cells (bytesA 64 fun _ => 0) 50)
        have hne_23 := hN4_17.lt
        refine hK.out _ _ (HS.out _ hb23) fun hHeld23 => ?_
        clear hK
        simp only [Act.put, List.setIfInBounds_toArray, List.set_cons_zero, List.set_cons_succ]
        generalize v17.alloc (.cells (bytesA 64 fun _ => 0) 50) = v23 at *
        refine wpAnyH_ready (rs := [1]) (by kernel_rfl) (by simp) ?_
        refine AllReadyH.cons (o := ⟨some 12, Op.call { callee := Callee.value (Operand.func 19), args := #[Operand.tmp 11, Operand.const (Value.int IntKind.u8 54)], argTypes := #[50, 5] }, 50, _, _, none⟩) rfl (fun K hK => ?_) (AllReadyH.nil)
        all_goals rw [if_pos (by rfl)]
        · refine wp_callF 19 _ _ rfl Tryd.enter19 #[.agg ck, .int .u8 54] (by simp [Act.eval]) (fun vz wz => vz = .agg c1 ∧ Below w2.heap.size w2 wz ∧ Below v23.heap.size v23 wz) ?_ ?_
          · refine (HXc1.out v23).mono ?_
            rintro e wz ⟨rfl, hbz⟩
            exact ⟨_, rfl, rfl, hb23.trans (hbz.mono hb23.size), hbz⟩
          rintro vz v24 ⟨rfl, hb24, hc24⟩
          refine hK.out _ _ (HS.out _ hb24) fun hHeld24 => ?_
          clear hK
          simp only [Act.put, List.setIfInBounds_toArray, List.set_cons_zero, List.set_cons_succ]
          have hN5_24 := hN5_23.below hc24 hN5_23.lt
          have hN4_24 := hN4_23.below hc24 hN4_23.lt
          refine wpAnyH_ready (rs := [3]) (by kernel_rfl) (by simp) ?_
          refine AllReadyH.cons (o := ⟨some 14, Op.call { callee := Callee.value (Operand.func 19), args := #[Operand.tmp 13, Operand.const (Value.int IntKind.u8 92)], argTypes := #[50, 5] }, 50, _, _, none⟩) rfl (fun K hK => ?_) (AllReadyH.nil)
          all_goals rw [if_pos (by rfl)]
          · refine wp_callF 19 _ _ rfl Tryd.enter19 #[.agg ck, .int .u8 92] (by simp [Act.eval]) (fun vz wz => vz = .agg c2 ∧ Below w2.heap.size w2 wz ∧ Below v24.heap.size v24 wz) ?_ ?_
            · refine (HXc2.out v24).mono ?_
              rintro e wz ⟨rfl, hbz⟩
              exact ⟨_, rfl, rfl, hb24.trans (hbz.mono hb24.size), hbz⟩
            rintro vz v25 ⟨rfl, hb25, hc25⟩
            refine hK.out _ _ (HS.out _ hb25) fun hHeld25 => ?_
            clear hK
            simp only [Act.put, List.setIfInBounds_toArray, List.set_cons_zero, List.set_cons_succ]
            have hN5_25 := hN5_24.below hc25 hN5_24.lt
            have hN4_25 := hN4_24.below hc25 hN4_24.lt
            have hlow6 : w2.heap.size ≤ wd.heap.size := hD0.size
            have hlow7 : w2.heap.size ≤ v17.heap.size := hb17.size
            have hn67 : v17.heap.size ≠ wd.heap.size := by omega
            refine wpAnyH_ready (rs := [6]) (by kernel_rfl) (by simp) ?_
            refine AllReadyH.cons (o := ⟨none, Op.store 50 (Operand.tmp 6) (Operand.tmp 12), 0, _, _, none⟩) rfl (fun K hK => ?_) AllReadyH.nil
            rw [if_pos (by rfl)]
            refine wp_store_row 50 (.tmp 6) (.tmp 12) rfl (wd.heap.size) c1 rfl rfl 50 (bytesA 64 fun _ => 0) hN4_25 HIc1.out HZc1.out HOc1.out ?_
            have hbs := below_setRow hb25 hlow6 c1
            refine hK.out _ _ (HS.out _ hbs) fun hHeldx => ?_
            clear hK
            simp only [Act.put]
            refine wpAnyH_ready (rs := [7]) (by kernel_rfl) (by simp) ?_
            refine AllReadyH.cons (o := ⟨none, Op.store 50 (Operand.tmp 7) (Operand.tmp 14), 0, _, _, none⟩) rfl (fun K hK => ?_) AllReadyH.nil
            rw [if_pos (by rfl)]
            refine wp_store_row 50 (.tmp 7) (.tmp 14) rfl (v17.heap.size) c2 rfl rfl 50 (bytesA 64 fun _ => 0) (hN5_25.setRow_ne (b' := wd.heap.size) hn67 c1) HIc2.out HZc2.out HOc2.out ?_
            have hbt := below_setRow hbs hlow7 c2
            refine hK.out _ _ (HS.out _ hbt) fun hHeldy => ?_
            clear hK
            refine wpAnyH_done (by kernel_rfl) ?_ _
            go_wp2_with fail
            go_meet
            case rel => exact ⟨wd.heap.size, v17.heap.size, rfl, rfl, (hN4_25.setRow c1).setRow_ne (b' := v17.heap.size) hn67.symm c2, (hN5_25.setRow_ne (b' := wd.heap.size) hn67 c1).setRow c2, hbt⟩
    · refine wp_newA 50 rfl _ Tryd.new50 ?_
      have hN5_26 := Blk.new wd 50 (bytesA 64 fun _ => 0)
      have hb26 : Below w2.heap.size w2 (wd.alloc (.cells (bytesA 64 fun _ => 0) 50)) := hD0.alloc hD0.size _
      refine hK.out _ _ (HS.out _ hb26) fun hHeld26 => ?_
      clear hK
      simp only [Act.put, List.setIfInBounds_toArray, List.set_cons_zero, List.set_cons_succ]
      generalize wd.alloc (.cells (bytesA 64 fun _ => 0) 50) = v26 at *
      refine wpAnyH_ready (rs := [1, 4]) (by kernel_rfl) (by simp) ?_
      refine AllReadyH.cons (o := ⟨some 12, Op.call { callee := Callee.value (Operand.func 19), args := #[Operand.tmp 11, Operand.const (Value.int IntKind.u8 54)], argTypes := #[50, 5] }, 50, _, _, none⟩) rfl (fun K hK => ?_) (AllReadyH.cons (o := ⟨some 6, Op.alloc 50, 0, _, _, none⟩) rfl (fun K hK => ?_) (AllReadyH.nil))
      all_goals rw [if_pos (by rfl)]
      · refine wp_callF 19 _ _ rfl Tryd.enter19 #[.agg ck, .int .u8 54] (by simp [Act.eval]) (fun vz wz => vz = .agg c1 ∧ Below w2.heap.size w2 wz ∧ Below v26.heap.size v26 wz) ?_ ?_
        · refine (HXc1.out v26).mono ?_
          rintro e wz ⟨rfl, hbz⟩
          exact ⟨_, rfl, rfl, hb26.trans (hbz.mono hb26.size), hbz⟩
        rintro vz v27 ⟨rfl, hb27, hc27⟩
        refine hK.out _ _ (HS.out _ hb27) fun hHeld27 => ?_
        clear hK
        simp only [Act.put, List.setIfInBounds_toArray, List.set_cons_zero, List.set_cons_succ]
        have hN5_27 := hN5_26.below hc27 hN5_26.lt
        refine wpAnyH_ready (rs := [3, 4]) (by kernel_rfl) (by simp) ?_
        refine AllReadyH.cons (o := ⟨some 14, Op.call { callee := Callee.value (Operand.func 19), args := #[Operand.tmp 13, Operand.const (Value.int IntKind.u8 92)], argTypes := #[50, 5] }, 50, _, _, none⟩) rfl (fun K hK => ?_) (AllReadyH.cons (o := ⟨some 6, Op.alloc 50, 0, _, _, none⟩) rfl (fun K hK => ?_) (AllReadyH.nil))
        all_goals rw [if_pos (by rfl)]
        · refine wp_callF 19 _ _ rfl Tryd.enter19 #[.agg ck, .int .u8 92] (by simp [Act.eval]) (fun vz wz => vz = .agg c2 ∧ Below w2.heap.size w2 wz ∧ Below v27.heap.size v27 wz) ?_ ?_
          · refine (HXc2.out v27).mono ?_
            rintro e wz ⟨rfl, hbz⟩
            exact ⟨_, rfl, rfl, hb27.trans (hbz.mono hb27.size), hbz⟩
          rintro vz v28 ⟨rfl, hb28, hc28⟩
          refine hK.out _ _ (HS.out _ hb28) fun hHeld28 => ?_
          clear hK
          simp only [Act.put, List.setIfInBounds_toArray, List.set_cons_zero, List.set_cons_succ]
          have hN5_28 := hN5_27.below hc28 hN5_27.lt
          refine wpAnyH_ready (rs := [4]) (by kernel_rfl) (by simp) ?_
          refine AllReadyH.cons (o := ⟨some 6, Op.alloc 50, 0, _, _, none⟩) rfl (fun K hK => ?_) (AllReadyH.nil)
          all_goals rw [if_pos (by rfl)]
          · refine wp_newA 50 rfl _ Tryd.new50 ?_
            have hN4_29 := Blk.new v28 50 (bytesA 64 fun _ => 0)
            have hb29 : Below w2.heap.size w2 (v28.alloc (.cells (bytesA 64 fun _ => 0) 50)) := hb28.alloc hb28.size _
            have hN5_29 := hN5_28.alloc (.cells (bytesA 64 fun _ => 0) 50)
            have hne_29 := hN5_28.lt
            refine hK.out _ _ (HS.out _ hb29) fun hHeld29 => ?_
            clear hK
            simp only [Act.put, List.setIfInBounds_toArray, List.set_cons_zero, List.set_cons_succ]
            generalize v28.alloc (.cells (bytesA 64 fun _ => 0) 50) = v29 at *
            have hlow6 : w2.heap.size ≤ v28.heap.size := hb28.size
            have hlow7 : w2.heap.size ≤ wd.heap.size := hD0.size
            have hn67 : wd.heap.size ≠ v28.heap.size := by omega
            refine wpAnyH_ready (rs := [6]) (by kernel_rfl) (by simp) ?_
            refine AllReadyH.cons (o := ⟨none, Op.store 50 (Operand.tmp 6) (Operand.tmp 12), 0, _, _, none⟩) rfl (fun K hK => ?_) AllReadyH.nil
            rw [if_pos (by rfl)]
            refine wp_store_row 50 (.tmp 6) (.tmp 12) rfl (v28.heap.size) c1 rfl rfl 50 (bytesA 64 fun _ => 0) hN4_29 HIc1.out HZc1.out HOc1.out ?_
            have hbs := below_setRow hb29 hlow6 c1
            refine hK.out _ _ (HS.out _ hbs) fun hHeldx => ?_
            clear hK
            simp only [Act.put]
            refine wpAnyH_ready (rs := [7]) (by kernel_rfl) (by simp) ?_
            refine AllReadyH.cons (o := ⟨none, Op.store 50 (Operand.tmp 7) (Operand.tmp 14), 0, _, _, none⟩) rfl (fun K hK => ?_) AllReadyH.nil
            rw [if_pos (by rfl)]
            refine wp_store_row 50 (.tmp 7) (.tmp 14) rfl (wd.heap.size) c2 rfl rfl 50 (bytesA 64 fun _ => 0) (hN5_29.setRow_ne (b' := v28.heap.size) hn67 c1) HIc2.out HZc2.out HOc2.out ?_
            have hbt := below_setRow hbs hlow7 c2
            refine hK.out _ _ (HS.out _ hbt) fun hHeldy => ?_
            clear hK
            refine wpAnyH_done (by kernel_rfl) ?_ _
            go_wp2_with fail
            go_meet
            case rel => exact ⟨v28.heap.size, wd.heap.size, rfl, rfl, (hN4_29.setRow c1).setRow_ne (b' := wd.heap.size) hn67.symm c2, (hN5_29.setRow_ne (b' := v28.heap.size) hn67 c1).setRow c2, hbt⟩
        · refine wp_newA 50 rfl _ Tryd.new50 ?_
          have hN4_30 := Blk.new v27 50 (bytesA 64 fun _ => 0)
          have hb30 : Below w2.heap.size w2 (v27.alloc (.cells (bytesA 64 fun _ => 0) 50)) := hb27.alloc hb27.size _
          have hN5_30 := hN5_27.alloc (.cells (bytesA 64 fun _ => 0) 50)
          have hne_30 := hN5_27.lt
          refine hK.out _ _ (HS.out _ hb30) fun hHeld30 => ?_
          clear hK
          simp only [Act.put, List.setIfInBounds_toArray, List.set_cons_zero, List.set_cons_succ]
          generalize v27.alloc (.cells (bytesA 64 fun _ => 0) 50) = v30 at *
          refine wpAnyH_ready (rs := [3]) (by kernel_rfl) (by simp) ?_
          refine AllReadyH.cons (o := ⟨some 14, Op.call { callee := Callee.value (Operand.func 19), args := #[Operand.tmp 13, Operand.const (Value.int IntKind.u8 92)], argTypes := #[50, 5] }, 50, _, _, none⟩) rfl (fun K hK => ?_) (AllReadyH.nil)
          all_goals rw [if_pos (by rfl)]
          · refine wp_callF 19 _ _ rfl Tryd.enter19 #[.agg ck, .int .u8 92] (by simp [Act.eval]) (fun vz wz => vz = .agg c2 ∧ Below w2.heap.size w2 wz ∧ Below v30.heap.size v30 wz) ?_ ?_
            · refine (HXc2.out v30).mono ?_
              rintro e wz ⟨rfl, hbz⟩
              exact ⟨_, rfl, rfl, hb30.trans (hbz.mono hb30.size), hbz⟩
            rintro vz v31 ⟨rfl, hb31, hc31⟩
            refine hK.out _ _ (HS.out _ hb31) fun hHeld31 => ?_
            clear hK
            simp only [Act.put, List.setIfInBounds_toArray, List.set_cons_zero, List.set_cons_succ]
            have hN4_31 := hN4_30.below hc31 hN4_30.lt
            have hN5_31 := hN5_30.below hc31 hN5_30.lt
            have hlow6 : w2.heap.size ≤ v27.heap.size := hb27.size
            have hlow7 : w2.heap.size ≤ wd.heap.size := hD0.size
            have hn67 : wd.heap.size ≠ v27.heap.size := by omega
            refine wpAnyH_ready (rs := [6]) (by kernel_rfl) (by simp) ?_
            refine AllReadyH.cons (o := ⟨none, Op.store 50 (Operand.tmp 6) (Operand.tmp 12), 0, _, _, none⟩) rfl (fun K hK => ?_) AllReadyH.nil
            rw [if_pos (by rfl)]
            refine wp_store_row 50 (.tmp 6) (.tmp 12) rfl (v27.heap.size) c1 rfl rfl 50 (bytesA 64 fun _ => 0) hN4_31 HIc1.out HZc1.out HOc1.out ?_
            have hbs := below_setRow hb31 hlow6 c1
            refine hK.out _ _ (HS.out _ hbs) fun hHeldx => ?_
            clear hK
            simp only [Act.put]
            refine wpAnyH_ready (rs := [7]) (by kernel_rfl) (by simp) ?_
            refine AllReadyH.cons (o := ⟨none, Op.store 50 (Operand.tmp 7) (Operand.tmp 14), 0, _, _, none⟩) rfl (fun K hK => ?_) AllReadyH.nil
            rw [if_pos (by rfl)]
            refine wp_store_row 50 (.tmp 7) (.tmp 14) rfl (wd.heap.size) c2 rfl rfl 50 (bytesA 64 fun _ => 0) (hN5_31.setRow_ne (b' := v27.heap.size) hn67 c1) HIc2.out HZc2.out HOc2.out ?_
            have hbt := below_setRow hbs hlow7 c2
            refine hK.out _ _ (HS.out _ hbt) fun hHeldy => ?_
            clear hK
            refine wpAnyH_done (by kernel_rfl) ?_ _
            go_wp2_with fail
            go_meet
            case rel => exact ⟨v27.heap.size, wd.heap.size, rfl, rfl, (hN4_31.setRow c1).setRow_ne (b' := wd.heap.size) hn67.symm c2, (hN5_31.setRow_ne (b' := v27.heap.size) hn67 c1).setRow c2, hbt⟩
      · refine wp_newA 50 rfl _ Tryd.new50 ?_
        have hN4_32 := Blk.new v26 50 (bytesA 64 fun _ => 0)
        have hb32 : Below w2.heap.size w2 (v26.alloc (.cells (bytesA 64 fun _ => 0) 50)) := hb26.alloc hb26.size _
        have hN5_32 := hN5_26.alloc (.cells (bytesA 64 fun _ => 0) 50)
        have hne_32 := hN5_26.lt
        refine hK.out _ _ (HS.out _ hb32) fun hHeld32 => ?_
        clear hK
        simp only [Act.put, List.setIfInBounds_toArray, List.set_cons_zero, List.set_cons_succ]
        generalize v26.alloc (.cells (bytesA 64 fun _ => 0) 50) = v32 at *
        refine wpAnyH_ready (rs := [1]) (by kernel_rfl) (by simp) ?_
        refine AllReadyH.cons (o := ⟨some 12, Op.call { callee := Callee.value (Operand.func 19), args := #[Operand.tmp 11, Operand.const (Value.int IntKind.u8 54)], argTypes := #[50, 5] }, 50, _, _, none⟩) rfl (fun K hK => ?_) (AllReadyH.nil)
        all_goals rw [if_pos (by rfl)]
        · refine wp_callF 19 _ _ rfl Tryd.enter19 #[.agg ck, .int .u8 54] (by simp [Act.eval]) (fun vz wz => vz = .agg c1 ∧ Below w2.heap.size w2 wz ∧ Below v32.heap.size v32 wz) ?_ ?_
          · refine (HXc1.out v32).mono ?_
            rintro e wz ⟨rfl, hbz⟩
            exact ⟨_, rfl, rfl, hb32.trans (hbz.mono hb32.size), hbz⟩
          rintro vz v33 ⟨rfl, hb33, hc33⟩
          refine hK.out _ _ (HS.out _ hb33) fun hHeld33 => ?_
          clear hK
          simp only [Act.put, List.setIfInBounds_toArray, List.set_cons_zero, List.set_cons_succ]
          have hN4_33 := hN4_32.below hc33 hN4_32.lt
          have hN5_33 := hN5_32.below hc33 hN5_32.lt
          refine wpAnyH_ready (rs := [3]) (by kernel_rfl) (by simp) ?_
          refine AllReadyH.cons (o := ⟨some 14, Op.call { callee := Callee.value (Operand.func 19), args := #[Operand.tmp 13, Operand.const (Value.int IntKind.u8 92)], argTypes := #[50, 5] }, 50, _, _, none⟩) rfl (fun K hK => ?_) (AllReadyH.nil)
          all_goals rw [if_pos (by rfl)]
          · refine wp_callF 19 _ _ rfl Tryd.enter19 #[.agg ck, .int .u8 92] (by simp [Act.eval]) (fun vz wz => vz = .agg c2 ∧ Below w2.heap.size w2 wz ∧ Below v33.heap.size v33 wz) ?_ ?_
            · refine (HXc2.out v33).mono ?_
              rintro e wz ⟨rfl, hbz⟩
              exact ⟨_, rfl, rfl, hb33.trans (hbz.mono hb33.size), hbz⟩
            rintro vz v34 ⟨rfl, hb34, hc34⟩
            refine hK.out _ _ (HS.out _ hb34) fun hHeld34 => ?_
            clear hK
            simp only [Act.put, List.setIfInBounds_toArray, List.set_cons_zero, List.set_cons_succ]
            have hN4_34 := hN4_33.below hc34 hN4_33.lt
            have hN5_34 := hN5_33.below hc34 hN5_33.lt
            have hlow6 : w2.heap.size ≤ v26.heap.size := hb26.size
            have hlow7 : w2.heap.size ≤ wd.heap.size := hD0.size
            have hn67 : wd.heap.size ≠ v26.heap.size := by omega
            refine wpAnyH_ready (rs := [6]) (by kernel_rfl) (by simp) ?_
            refine AllReadyH.cons (o := ⟨none, Op.store 50 (Operand.tmp 6) (Operand.tmp 12), 0, _, _, none⟩) rfl (fun K hK => ?_) AllReadyH.nil
            rw [if_pos (by rfl)]
            refine wp_store_row 50 (.tmp 6) (.tmp 12) rfl (v26.heap.size) c1 rfl rfl 50 (bytesA 64 fun _ => 0) hN4_34 HIc1.out HZc1.out HOc1.out ?_
            have hbs := below_setRow hb34 hlow6 c1
            refine hK.out _ _ (HS.out _ hbs) fun hHeldx => ?_
            clear hK
            simp only [Act.put]
            refine wpAnyH_ready (rs := [7]) (by kernel_rfl) (by simp) ?_
            refine AllReadyH.cons (o := ⟨none, Op.store 50 (Operand.tmp 7) (Operand.tmp 14), 0, _, _, none⟩) rfl (fun K hK => ?_) AllReadyH.nil
            rw [if_pos (by rfl)]
            refine wp_store_row 50 (.tmp 7) (.tmp 14) rfl (wd.heap.size) c2 rfl rfl 50 (bytesA 64 fun _ => 0) (hN5_34.setRow_ne (b' := v26.heap.size) hn67 c1) HIc2.out HZc2.out HOc2.out ?_
            have hbt := below_setRow hbs hlow7 c2
            refine hK.out _ _ (HS.out _ hbt) fun hHeldy => ?_
            clear hK
            refine wpAnyH_done (by kernel_rfl) ?_ _
            go_wp2_with fail
            go_meet
            case rel => exact ⟨v26.heap.size, wd.heap.size, rfl, rfl, (hN4_34.setRow c1).setRow_ne (b' := wd.heap.size) hn67.symm c2, (hN5_34.setRow_ne (b' := v26.heap.size) hn67 c1).setRow c2, hbt⟩
  case rest =>
    obtain ⟨g6, g7, hs6, hs7, h6, h7, hb3⟩ := hcut
    subst hs6 hs7
    obtain ⟨w3, rfl⟩ : ∃ w3, w3 = wc := ⟨_, rfl⟩
    have HA3 := Keep.mk h6
    have HC3 := Keep.mk h7
    have HR3 := Keep.mk (HR2.out.below hb3 HR2.out.lt)
    have HB3 := Keep.mk (HB2.out.trans (hb3.mono HB2.out.size))
    clear h6 h7 hb3 HR2 HB2 HK2 HS HXc1 HXc2 hCA hi hu
    go_wp2_with fail
    have HN4 := Keep.mk (Blk.new w3 22 #[.slice (some ⟨g6, 0, none⟩) 64 64, .slice ba b.length bc])
    have hb4 := below_new w3 (.cells #[.slice (some ⟨g6, 0, none⟩) 64 64, .slice ba b.length bc] 22)
    generalize w3.alloc (.cells #[.slice (some ⟨g6, 0, none⟩) 64 64, .slice ba b.length bc] 22) = w4 at *
    have HB4 := Keep.mk (HB3.out.trans (hb4.mono HB3.out.size))
    have HA4 := Keep.mk (HA3.out.below hb4 HA3.out.lt)
    have HC4 := Keep.mk (HC3.out.below hb4 HC3.out.lt)
    have HR4 := Keep.mk (HR3.out.below hb4 HR3.out.lt)
    clear HB3 HA3 HC3 HR3
    have HP : Keep (RowAt w4 (.slice (some ⟨g6, 0, none⟩) 64 64) (padL key 54)) := ⟨by rw [← pad_is]; exact row_arr (by rw [← Hc1.out]; exact HA4.out)⟩
    clear hb4
    refine (all_two HN4.out HP.out (HRb.out.below HB4.out) (by rw [padL_len]; have := HBl.out; omega)).mono ?_
    rintro e w5 ⟨rfl, hb5⟩
    obtain ⟨ci, Hci⟩ : ∃ ci, Keep (ci = bytesA 32 (shaP (padL key 54 ++ b))) := ⟨_, ⟨rfl⟩⟩
    have HIci : Keep ((Tryd.prog.info? 40).map (·.size) = some ci.size) := ⟨by rw [Hci.out]; exact Tryd.size40B _⟩
    have HZci : Keep ((bytesA 32 fun _ => 0).size = ci.size) := ⟨by rw [Hci.out]; exact bytesA_sizes _ _ _⟩
    have HOci : Keep (ci.all (·.oneCell') = true) := ⟨by rw [Hci.out]; exact bytesA_one _ _⟩
    rw [← Hci.out]
    have HB5 := Keep.mk (HB4.out.trans (hb5.mono HB4.out.size))
    have HC5 := Keep.mk (HC4.out.below hb5 HC4.out.lt)
    have HR5 := Keep.mk (HR4.out.below hb5 HR4.out.lt)
    clear HB4 HC4 HR4
    clear hb5 HA4 HP HN4
    go_wp2_with (first | (refine wpList_new rfl 40 rfl _ Tryd.new40 ?_; refine Hid.out ?_))
    refine hid_in ?_
    have HNb := Keep.mk (Blk.new w5 40 (bytesA 32 fun _ => 0))
    have HAb := Keep.mk (below_new w5 (.cells (bytesA 32 fun _ => 0) 40))
    obtain ⟨g8, hg8⟩ : ∃ g8, Keep (g8 = w5.heap.size) := ⟨_, ⟨rfl⟩⟩
    rw [← hg8.out] at HNb ⊢
    generalize w5.alloc (.cells (bytesA 32 fun _ => 0) 40) = wa at *
    go_wp2_with (first | (refine wpList_store_row rfl 40 (.tmp 8) (.tmp 18) rfl g8 ci rfl rfl 40 (bytesA 32 fun _ => 0) HNb.out HIci.out HZci.out HOci.out ?_; refine Hid.out ?_))
    refine hid_in ?_
    have hb6 := below_setRow HAb.out (show w5.heap.size ≤ g8 from Nat.le_of_eq hg8.out.symm) ci
    have HD6 := Keep.mk (HNb.out.setRow ci)
    generalize wa.setRow g8 ci = w6 at *
    have HB6 := Keep.mk (HB5.out.trans (hb6.mono HB5.out.size))
    have HC6 := Keep.mk (HC5.out.below hb6 HC5.out.lt)
    have HR6 := Keep.mk (HR5.out.below hb6 HR5.out.lt)
    clear HB5 HC5 HR5
    clear hb6 HNb HAb hg8
    obtain ⟨cm, Hcm⟩ : ∃ cm, Keep (cm = bytesA 32 (macP key b)) := ⟨_, ⟨rfl⟩⟩
    have HIcm : Keep ((Tryd.prog.info? 40).map (·.size) = some cm.size) := ⟨by rw [Hcm.out]; exact Tryd.size40B _⟩
    have HZcm : Keep ((bytesA 32 fun _ => 0).size = cm.size) := ⟨by rw [Hcm.out]; exact bytesA_sizes _ _ _⟩
    have HOcm : Keep (cm.all (·.oneCell') = true) := ⟨by rw [Hcm.out]; exact bytesA_one _ _⟩
    have hD0 : Below w6.heap.size w6 w6.drew := (Below.refl _ _).drew
    go_wp2_with fail
    refine wp_region_held_drew (S := fun _ => True) (by kernel_rfl) trivial (fun hHeld => ?_)
    generalize w6.drew = wd at *
    refine wpAnyH_take (i := 0) (oi := ⟨some 19, Op.slice 50 (Operand.tmp 7) none none none, 22, _, _, none⟩) (v := .slice (some ⟨g7, 0, none⟩) 64 64) rfl (by kernel_rfl) (by kernel_rfl) (by kernel_rfl) (fun _ _ _ h => h) (Or.inl ⟨by rfl, fun w hS => by go_simp⟩) hHeld ?_
    simp only [Act.put, List.setIfInBounds_toArray, List.set_cons_zero, List.set_cons_succ]
    refine wpAnyH_take (i := 1) (oi := ⟨some 20, Op.slice 40 (Operand.tmp 8) none none none, 22, _, _, none⟩) (v := .slice (some ⟨g8, 0, none⟩) 32 32) rfl (by kernel_rfl) (by kernel_rfl) (by kernel_rfl) (fun _ _ _ h => h) (Or.inl ⟨by rfl, fun w hS => by go_simp⟩) hHeld ?_
    simp only [Act.put, List.setIfInBounds_toArray, List.set_cons_zero, List.set_cons_succ]
    refine wpAnyH_ready (rs := [2]) (by kernel_rfl) (by simp) ?_
    refine AllReadyH.cons (o := ⟨some 21, Op.buildSlice 38 2 #[(0, Operand.tmp 19), (1, Operand.tmp 20)], 38, _, _, none⟩) rfl (fun K hK => ?_) AllReadyH.nil
    rw [if_pos (by rfl)]
    refine wp_bs 38 2 _ rfl #[(0, .slice (some ⟨g7, 0, none⟩) 64 64), (1, .slice (some ⟨g8, 0, none⟩) 32 32)] (by simp [Act.eval]) _ _ (Tryd.bs36 (some ⟨g7, 0, none⟩) (some ⟨g8, 0, none⟩) 64 64 32 32 wd) ?_
    have HN7 := Keep.mk (Blk.new wd 22 #[.slice (some ⟨g7, 0, none⟩) 64 64, .slice (some ⟨g8, 0, none⟩) 32 32])
    have hb7 : Below w6.heap.size w6 (wd.alloc (.cells #[.slice (some ⟨g7, 0, none⟩) 64 64, .slice (some ⟨g8, 0, none⟩) 32 32] 22)) := hD0.alloc hD0.size _
    generalize wd.alloc (.cells #[.slice (some ⟨g7, 0, none⟩) 64 64, .slice (some ⟨g8, 0, none⟩) 32 32] 22) = w7 at *
    refine hK.out _ _ trivial fun hHeld2 => ?_
    clear hK
    simp only [Act.put, List.setIfInBounds_toArray, List.set_cons_zero, List.set_cons_succ]
    have HB7 := Keep.mk (HB6.out.trans (hb7.mono HB6.out.size))
    have HC7 := Keep.mk (HC6.out.below hb7 HC6.out.lt)
    have HR7 := Keep.mk (HR6.out.below hb7 HR6.out.lt)
    have HD7 := Keep.mk (HD6.out.below hb7 HD6.out.lt)
    clear HB6 HC6 HR6 HD6
    have HP2 : Keep (RowAt w7 (.slice (some ⟨g7, 0, none⟩) 64 64) (padL key 92)) := ⟨by rw [← pad_is]; exact row_arr (by rw [← Hc2.out]; exact HC7.out)⟩
    have HP3 : Keep (RowAt w7 (.slice (some ⟨g8, 0, none⟩) 32 32) (hl 32 (shaP (padL key 54 ++ b)))) := ⟨row_arr (by rw [← Hci.out]; exact HD7.out)⟩
    refine wpAnyH_ready (rs := [3]) (by kernel_rfl) (by simp) ?_
    refine AllReadyH.cons (o := ⟨some 22, Op.call { callee := Callee.value (Operand.func 20), args := #[Operand.tmp 21], argTypes := #[38] }, 40, _, _, none⟩) rfl (fun K hK => ?_) AllReadyH.nil
    rw [if_pos (by rfl)]
    refine wp_callF 20 _ _ rfl Tryd.enter20 #[.slice (some ⟨wd.heap.size, 0, none⟩) 2 2] (by simp [Act.eval]) (fun vz wz => vz = .agg cm ∧ Below w7.heap.size w7 wz) ?_ ?_
    · refine (all_two HN7.out HP2.out HP3.out (by rw [padL_len, hl_len]; omega)).mono ?_
      rintro e wz ⟨rfl, hbz⟩
      exact ⟨_, rfl, by rw [Hcm.out]; rfl, hbz⟩
    rintro vz w8 ⟨rfl, hb8⟩
    refine hK.out _ _ trivial fun hHeld3 => ?_
    clear hK
    simp only [Act.put, List.setIfInBounds_toArray, List.set_cons_zero, List.set_cons_succ]
    have HB8 := Keep.mk (HB7.out.trans (hb8.mono HB7.out.size))
    have HR8 := Keep.mk (HR7.out.below hb8 HR7.out.lt)
    clear HB7 HR7
    refine wpAnyH_ready (rs := [4]) (by kernel_rfl) (by simp) ?_
    refine AllReadyH.cons (o := ⟨none, Op.store 40 (Operand.tmp 4) (Operand.tmp 22), 0, _, _, none⟩) rfl (fun K hK => ?_) AllReadyH.nil
    rw [if_pos (by rfl)]
    refine wp_store_row 40 (.tmp 4) (.tmp 22) rfl g4 cm rfl rfl 40 (bytesA 32 fun _ => 0) HR8.out HIcm.out HZcm.out HOcm.out ?_
    refine hK.out _ _ trivial fun _ => ?_
    clear hK
    refine wpAnyH_done (by kernel_rfl) ?_ _
    have HF := Keep.mk (HR8.out.setRow cm)
    have HBF := Keep.mk (below_setRow HB8.out (show w.heap.size ≤ g4 from Nat.le_of_eq hg4.out.symm) cm)
    generalize w8.setRow g4 cm = w9 at *
    clear hHeld hHeld2 hHeld3
    go_wp2_with fail
    exact bodyPost_ret (v := .agg cm) (results_cell_row Tryd.results13 _ _ g4 40 _ (0, 0) _ rfl HF.out Tryd.underlying40 rfl HIcm.out) rfl ⟨by rw [Hcm.out], HBF.out⟩
end Go.Proofs.YtpakaladpdoejaaDoor
