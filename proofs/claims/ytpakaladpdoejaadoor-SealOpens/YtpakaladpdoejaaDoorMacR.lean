import Derived.Test.YtpakaladpdoejaaDoorPadR
namespace Go.Proofs.YtpakaladpdoejaaDoor
open Go.RowKit

theorem Tryd.enter21 (w : World) (vs : Array Value) : (callFunc 21 vs).run Tryd.prog w = .ok (.enter 21 vs) w := by kernel_rfl
theorem Tryd.enter23 (w : World) (vs : Array Value) : (callFunc 23 vs).run Tryd.prog w = .ok (.enter 23 vs) w := by kernel_rfl
theorem mac_row {key b l : List Int} (h : l = padL key 54 ++ b) : macP key b = shaP (padL key 92 ++ hl 32 (shaP l)) := by rw [h]; rfl

set_option maxRecDepth 8000 in
set_option maxHeartbeats 2000000 in
theorem refMac_any (vk vb : Value) (key b : List Int) (w : World) (hk : RowAt w vk key) (hb : RowAt w vb b) (hkl : key.length ≤ 140737488351232) (hbl : b.length ≤ 140737488351232) :
    Calls Tryd.prog 15 #[vk, vb] w fun e w' => e = .returned (.agg (bytesA 32 (macP key b))) ∧ Below w.heap.size w w' := by
  have HA := Keep.mk (below_new w (.cells (bytesA 32 fun _ => 0) 40))
  have HN := Keep.mk (Blk.new w 40 (bytesA 32 fun _ => 0))
  have HK := Keep.mk hk
  have HB := Keep.mk hb
  have HKl := Keep.mk hkl
  have HBl := Keep.mk hbl
  clear hk hb hkl hbl
  go_enter Tryd.func15, Tryd.ntmps15
  go_wp2_with (first | (refine wpList_new rfl 40 rfl _ Tryd.new40 ?_; refine Hid.out ?_))
  refine hid_in ?_
  generalize w.alloc (.cells (bytesA 32 fun _ => 0) 40) = w1 at *
  go_wp2_with fail
  refine (pad3_any vk key 54 w1 (HK.out.below HA.out) HKl.out).mono ?_
  rintro e w2 ⟨v2, rfl, hF2⟩
  have HF2 := Keep.mk hF2
  have HB2 := Keep.mk (HA.out.trans (hF2.2.2.mono HA.out.size))
  have HN2 := Keep.mk (HN.out.below hF2.2.2 HN.out.lt)
  clear hF2
  obtain ⟨l1, hl1⟩ : ∃ l1, Keep (l1 = padL key 54 ++ b) := ⟨_, ⟨rfl⟩⟩
  have HL1 : Keep ((padL key 54).length + b.length ≤ 140737488355000) := ⟨by rw [padL_len]; have := HBl.out; omega⟩
  go_wp2_with (first | (at_builtin; refine wpList_app rfl (.tmp 9) (.tmp 10) rfl _ _ (padL key 54) b rfl rfl HF2.out.1 (HB.out.below HB2.out) (by have := HL1.out; omega) ?_; intro v3 w3 hp; refine Hid.out ?_))
  refine hid_in ?_
  have HF3 := Keep.mk (HF2.out.app hp)
  rw [← hl1.out] at HF3
  have HB3 := Keep.mk (HA.out.trans (HF3.out.2.2.mono HA.out.size))
  have HN3 := Keep.mk (HN.out.below HF3.out.2.2 HN.out.lt)
  have HL3 : Keep (l1.length ≤ 140737488355000) := ⟨by rw [hl1.out, List.length_append]; exact HL1.out⟩
  clear hp HF2 HB2 HN2 HL1
  go_wp2_with fail
  refine (refOf_sha v3 l1 w3 HF3.out.1.row HL3.out).mono ?_
  rintro e w4 ⟨rfl, hb4⟩
  have HB4 := Keep.mk (HB3.out.trans (hb4.mono HB3.out.size))
  have HN4 := Keep.mk (HN3.out.below hb4 HN3.out.lt)
  clear hb4 HF3 HB3 HN3 HL3
  obtain ⟨c1, hc1⟩ : ∃ c1, Keep (c1 = shaP l1) := ⟨_, ⟨rfl⟩⟩
  rw [← hc1.out]
  obtain ⟨ca, hca⟩ : ∃ ca, Keep (ca = bytesA 32 c1) := ⟨_, ⟨rfl⟩⟩
  rw [← hca.out]
  have HI : Keep ((Tryd.prog.info? 40).map (·.size) = some ca.size) := ⟨by rw [hca.out]; exact Tryd.size40B c1⟩
  have HSz : Keep ((bytesA 32 fun _ => 0).size = ca.size) := ⟨by rw [hca.out]; exact bytesA_sizes _ _ _⟩
  have HOne : Keep (ca.all (·.oneCell') = true) := ⟨by rw [hca.out]; exact bytesA_one _ _⟩
  go_wp2_with (first | (refine wpList_new rfl 40 rfl _ Tryd.new40 ?_; refine Hid.out ?_))
  refine hid_in ?_
  have HA5 := Keep.mk (below_new w4 (.cells (bytesA 32 fun _ => 0) 40))
  have HM5 := Keep.mk (Blk.new w4 40 (bytesA 32 fun _ => 0))
  have hl5 : w.heap.size < w4.heap.size := HN4.out.lt
  generalize w4.alloc (.cells (bytesA 32 fun _ => 0) 40) = w5 at *
  go_wp2_with (first | (refine wpList_store_row rfl 40 (.tmp 6) (.tmp 13) rfl w4.heap.size ca rfl rfl 40 (bytesA 32 fun _ => 0) HM5.out HI.out HSz.out HOne.out ?_; refine Hid.out ?_))
  refine hid_in ?_
  have HB6 := Keep.mk (below_setRow HA5.out (Nat.le_refl _) ca)
  have HM6 := Keep.mk (HM5.out.setRow ca)
  have HN6 := Keep.mk (HN4.out.below HB6.out HN4.out.lt)
  have HW6 := Keep.mk (HB4.out.trans (HB6.out.mono HB4.out.size))
  generalize w5.setRow w4.heap.size ca = w6 at *
  clear HA5 HM5 HB6 HB4 HN4 HN HA
  obtain ⟨CM, hCM⟩ : ∃ CM, Keep (CM = ca.toList) := ⟨_, ⟨rfl⟩⟩
  have hCA : CM.toArray = ca := by rw [hCM.out]
  have hi : (Tryd.prog.info? 40).map (·.size) = some CM.length := by rw [hCM.out, Array.length_toList]; exact HI.out
  have hu := Tryd.underlying40
  have HS6 : Keep (∀ wx, Below w6.heap.size w6 wx → wx.rangeAt w4.heap.size 0 CM) := ⟨fun wx hx => by rw [hCM.out]; exact blk_range (HM6.out.below hx HM6.out.lt)⟩
  have hD0 : Below w6.heap.size w6 w6.drew := (Below.refl _ _).drew
  go_wp2_with fail
  refine wp_region_held_drew (S := fun wx => wx.rangeAt w4.heap.size 0 CM) (by kernel_rfl) (HS6.out _ hD0) (fun hHeld => ?_)
  refine wpAnyH_take (i := 0) (oi := ⟨some 14, Op.move (Operand.tmp 0), 22, _, _, none⟩) (v := vk) rfl (by kernel_rfl) (by kernel_rfl) (by kernel_rfl) (fun _ _ _ h => h) (Or.inl ⟨by rfl, fun w hS => by go_simp⟩) hHeld ?_
  simp only [Act.put, List.setIfInBounds_toArray, List.set_cons_zero, List.set_cons_succ]
  refine wpAnyH_take (i := 2) (oi := ⟨some 16, Op.load 40 (Operand.tmp 6), 40, _, _, none⟩) (v := .agg (CM).toArray) rfl (by kernel_rfl) (by kernel_rfl) (by kernel_rfl) (fun _ _ _ h => h) (yieldsIf_load_mid (by rfl) 40 (Operand.tmp 6) rfl w4.heap.size 0 rfl CM _ (fun w hS => hS) hu rfl hi) hHeld ?_
  simp only [Act.put, List.setIfInBounds_toArray, List.set_cons_zero, List.set_cons_succ]
  rw [hCA]
  refine wpAnyH_ready (rs := [1]) (by kernel_rfl) (by simp) ?_
  refine AllReadyH.cons (o := ⟨some 15, Op.call { callee := Callee.value (Operand.func 21), args := #[Operand.tmp 14, Operand.const (Value.int IntKind.u8 92)], argTypes := #[22, 5] }, 22, _, _, none⟩) rfl (fun K hK => ?_) AllReadyH.nil
  rw [if_pos (by rfl)]
  refine wp_callF 21 _ _ rfl Tryd.enter21 #[vk, .int .u8 92] (by simp [Act.eval]) (fun vz wz => FreshB w6.drew vz (padL key 92) wz) ?_ ?_
  · refine (pad3_any vk key 92 w6.drew (HK.out.below (HW6.out.trans (hD0.mono HW6.out.size))) HKl.out).mono ?_
    rintro e wz ⟨vz, rfl, hF⟩
    exact ⟨_, rfl, hF⟩
  rintro vz w7 hF7
  have HF7 := Keep.mk hF7
  have HB7 := Keep.mk (hD0.trans (hF7.2.2.mono hD0.size))
  clear hF7
  refine hK.out _ _ (HS6.out _ HB7.out) fun hHeld2 => ?_
  clear hK
  simp only [Act.put, List.setIfInBounds_toArray, List.set_cons_zero, List.set_cons_succ]
  refine wpAnyH_ready (rs := [3]) (by kernel_rfl) (by simp) ?_
  refine AllReadyH.cons (o := ⟨some 17, Op.call { callee := Callee.value (Operand.func 23), args := #[Operand.tmp 16], argTypes := #[40] }, 22, _, _, none⟩) rfl (fun K hK => ?_) AllReadyH.nil
  rw [if_pos (by rfl)]
  refine wp_callF 23 _ _ rfl Tryd.enter23 #[.agg ca] (by simp [Act.eval]) (fun vy wz => FreshB w7 vy (hl 32 c1) wz) ?_ ?_
  · rw [hca.out]
    refine (hashed_any c1 w7).mono ?_
    rintro e wz ⟨vy, rfl, hF⟩
    exact ⟨_, rfl, hF⟩
  rintro vy w8 hF8
  have HF8 := Keep.mk hF8
  have HB8 := Keep.mk (HB7.out.trans (hF8.2.2.mono HB7.out.size))
  have HF78 := Keep.mk (HF7.out.later hF8.2.2)
  clear hF8
  refine hK.out _ _ (HS6.out _ HB8.out) fun hHeld3 => ?_
  clear hK
  simp only [Act.put, List.setIfInBounds_toArray, List.set_cons_zero, List.set_cons_succ]
  refine wpAnyH_ready (rs := [4]) (by kernel_rfl) (by simp) ?_
  refine AllReadyH.cons (o := ⟨some 18, Op.call { callee := Callee.builtin Builtin.append, args := #[Operand.tmp 15, Operand.tmp 17], argTypes := #[22, 22] }, 22, _, _, none⟩) rfl (fun K hK => ?_) AllReadyH.nil
  rw [if_pos (by rfl)]
  refine wp_app (.tmp 15) (.tmp 17) rfl vz vy (padL key 92) (hl 32 c1) rfl rfl HF78.out.1 HF8.out.1.row (by rw [padL_len, hl_len]; decide) ?_
  intro v9 w9 hp
  have HF9 := Keep.mk (HF78.out.app hp)
  have HB9 := Keep.mk (hD0.trans (HF9.out.2.2.mono hD0.size))
  clear hp
  refine hK.out _ _ (HS6.out _ HB9.out) fun hHeld4 => ?_
  clear hK
  simp only [Act.put, List.setIfInBounds_toArray, List.set_cons_zero, List.set_cons_succ]
  refine wpAnyH_take (i := 5) (oi := ⟨some 7, Op.assign (Operand.tmp 18), 22, _, _, none⟩) (v := v9) rfl (by kernel_rfl) (by kernel_rfl) (by kernel_rfl) (fun _ _ _ h => h) (Or.inl ⟨by rfl, fun w hS => by go_simp⟩) hHeld4 ?_
  simp only [Act.put, List.setIfInBounds_toArray, List.set_cons_zero, List.set_cons_succ]
  refine wpAnyH_done (by kernel_rfl) ?_ _
  have HN9 := Keep.mk (HN6.out.below HB9.out HN6.out.lt)
  have HW9 := Keep.mk (HW6.out.trans (HB9.out.mono HW6.out.size))
  obtain ⟨l2, hl2⟩ : ∃ l2, Keep (l2 = padL key 92 ++ hl 32 c1) := ⟨_, ⟨rfl⟩⟩
  rw [← hl2.out] at HF9
  have HL2 : Keep (l2.length ≤ 140737488355000) := ⟨by rw [hl2.out, List.length_append, padL_len, hl_len]; decide⟩
  clear hHeld hHeld2 hHeld3 hHeld4 HF7 HF8 HF78 HB7 HB8 HB9 HS6 HM6 HN6 HW6 HSz HOne HI hi hu hCA hCM
  go_wp2_with fail
  refine (refOf_sha v9 l2 w9 HF9.out.1.row HL2.out).mono ?_
  rintro e w10 ⟨rfl, hb10⟩
  have HW10 := Keep.mk (HW9.out.trans (hb10.mono HW9.out.size))
  have HN10 := Keep.mk (HN9.out.below hb10 HN9.out.lt)
  clear hb10 HW9 HN9 HF9
  have hmac : shaP l2 = macP key b := by rw [hl2.out, hc1.out]; exact (mac_row hl1.out).symm
  rw [hmac]
  clear hmac
  obtain ⟨cb, hcb⟩ : ∃ cb, Keep (cb = bytesA 32 (macP key b)) := ⟨_, ⟨rfl⟩⟩
  rw [← hcb.out]
  have HJ : Keep ((Tryd.prog.info? 40).map (·.size) = some cb.size) := ⟨by rw [hcb.out]; exact Tryd.size40B _⟩
  have HJz : Keep ((bytesA 32 fun _ => 0).size = cb.size) := ⟨by rw [hcb.out]; exact bytesA_sizes _ _ _⟩
  have HJo : Keep (cb.all (·.oneCell') = true) := ⟨by rw [hcb.out]; exact bytesA_one _ _⟩
  go_wp2_with (first | (refine wpList_store_row rfl 40 (.tmp 4) (.tmp 20) rfl w.heap.size cb rfl rfl 40 (bytesA 32 fun _ => 0) HN10.out HJ.out HJz.out HJo.out ?_; refine Hid.out ?_))
  refine hid_in ?_
  have HN11 := Keep.mk (HN10.out.setRow cb)
  have HW11 := Keep.mk (below_setRow HW10.out (Nat.le_refl _) cb)
  generalize w10.setRow w.heap.size cb = w11 at *
  go_wp2
  exact bodyPost_ret (results_cell1_row Tryd.results15 _ _ w.heap.size 40 _ (0, 0) _ rfl HN11.out Tryd.underlying40 rfl HJ.out) rfl ⟨by rw [hcb.out], HW11.out⟩
end Go.Proofs.YtpakaladpdoejaaDoor
