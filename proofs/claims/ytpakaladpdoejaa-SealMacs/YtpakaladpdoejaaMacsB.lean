import Derived.Test.YtpakaladpdoejaaMacs
namespace Go.Proofs.Ytpakaladpdoejaa
open Go.RowKit

set_option maxRecDepth 4000 in
set_option maxHeartbeats 4000000 in
theorem macs_any (hM : MacOk) (vk vb : Value) (key b : List Int) (w : World) (hk : RowAt w vk key) (hb : RowAt w vb b) (hkl : key.length ≤ 140737488351232) (hbl : b.length ≤ 140737488351232) :
    Calls Try.prog 4 #[vk, vb] w fun e w' => e = .returned (.bool true) ∧ Below w.heap.size w w' := by
  have HMac := Keep.mk hM
  have HF := Keep.mk (fixed3_any hM w)
  have HRk := Keep.mk hk
  have HRb := Keep.mk hb
  have HKl := Keep.mk hkl
  have HBl := Keep.mk hbl
  obtain ⟨ka, kc, rfl⟩ := row_form hk
  obtain ⟨ba, bc, rfl⟩ := row_form hb
  have hsk : (key.length : Int) ≤ 140737488351232 := by omega
  have hsb : (b.length : Int) ≤ 140737488351232 := by omega
  clear hM hk hb hkl hbl
  go_enter Try.func4, Try.ntmps4
  go_wp2_with fail
  refine HF.out.mono ?_
  rintro e w1 ⟨rfl, hb1⟩
  have HB1 := Keep.mk hb1
  clear hb1 HF
  go_wp2_with fail
  refine (wide3_any _ key w1 (HRk.out.below HB1.out) (by have := HKl.out; omega)).mono ?_
  rintro e w2 ⟨rfl, hW, hb2⟩
  obtain ⟨gk, hgk⟩ : ∃ gk, Keep (gk = w1.heap.size) := ⟨_, ⟨rfl⟩⟩
  rw [← hgk.out] at hW
  rw [← hgk.out]
  have HB2 := Keep.mk (HB1.out.trans (hb2.mono HB1.out.size))
  have HK2 := Keep.mk hW
  have Hgk : Keep (w.heap.size ≤ gk) := ⟨by rw [hgk.out]; exact HB1.out.size⟩
  clear hW hb2 HB1 hgk
  go_wp2_with fail
  refine (wide3_any _ b w2 (HRb.out.below HB2.out) (by have := HBl.out; omega)).mono ?_
  rintro e w3 ⟨rfl, hW, hb3⟩
  obtain ⟨gw, hgw⟩ : ∃ gw, Keep (gw = w2.heap.size) := ⟨_, ⟨rfl⟩⟩
  rw [← hgw.out] at hW
  rw [← hgw.out]
  have HB3 := Keep.mk (HB2.out.trans (hb3.mono HB2.out.size))
  have HK3 := Keep.mk (HK2.out.below hb3 HK2.out.lt)
  have HW3 := Keep.mk hW
  have Hgkw : Keep (gk < gw) := ⟨by rw [hgw.out]; exact HK2.out.lt⟩
  clear hW hb3 HB2 HK2 hgw
  have hslk := sl_run (some ⟨gk, 0, none⟩) (key.length + 8) (key.length + 8) key.length (by omega)
  have hslw := sl_run (some ⟨gw, 0, none⟩) (b.length + 8) (b.length + 8) b.length (by omega)
  obtain ⟨ca, Hca⟩ : ∃ ca, Keep (ca = bytesA 32 (macP key b)) := ⟨_, ⟨rfl⟩⟩
  have HIca : Keep ((Try.prog.info? 26).map (·.size) = some ca.size) := ⟨by rw [Hca.out]; exact Try.size26B _⟩
  have HZca : Keep ((bytesA 32 fun _ => 0).size = ca.size) := ⟨by rw [Hca.out]; exact bytesA_sizes _ _ _⟩
  have HOca : Keep (ca.all (·.oneCell') = true) := ⟨by rw [Hca.out]; exact bytesA_one _ _⟩
  go_wp2_with fail
  try simp only [Act.put, List.setIfInBounds_toArray, List.set_cons_zero, List.set_cons_succ]
  go_cut [8] from 19 to 27 (fun sx wx => ∃ g8, sx = ptr g8 ∧ w3.heap.size ≤ g8 ∧ Blk wx g8 26 ca ∧ Below w3.heap.size w3 wx)
  case first =>
    have hD0 : Below w3.heap.size w3 w3.drew := (Below.refl _ _).drew
    refine wp_region_held_drew (S := fun _ => True) (by kernel_rfl) trivial (fun hHeld => ?_)
    refine wpAnyH_take (i := 0) (oi := ⟨some 19, Op.move (Operand.tmp 6), 23, _, _, none⟩) (v := .slice (some ⟨gk, 0, none⟩) (key.length + 8) (key.length + 8)) rfl (by kernel_rfl) (by kernel_rfl) (by kernel_rfl) (fun _ _ _ h => h) (Or.inl ⟨by rfl, fun w hS => by go_simp⟩) hHeld ?_
    simp only [Act.put, List.setIfInBounds_toArray, List.set_cons_zero, List.set_cons_succ]
    refine wpAnyH_take (i := 1) (oi := ⟨some 20, Op.move (Operand.tmp 0), 23, _, _, none⟩) (v := .slice ka key.length kc) rfl (by kernel_rfl) (by kernel_rfl) (by kernel_rfl) (fun _ _ _ h => h) (Or.inl ⟨by rfl, fun w hS => by go_simp⟩) hHeld ?_
    simp only [Act.put, List.setIfInBounds_toArray, List.set_cons_zero, List.set_cons_succ]
    refine wpAnyH_take (i := 2) (oi := ⟨some 21, Op.call { callee := Callee.builtin Builtin.len, args := #[Operand.tmp 20], argTypes := #[23] }, 3, _, _, none⟩) (v := .int .i64 (key.length : Int)) rfl (by kernel_rfl) (by kernel_rfl) (by kernel_rfl) (fun _ _ _ h => h) (Or.inl ⟨by rfl, fun w hS => by go_simp⟩) hHeld ?_
    simp only [Act.put, List.setIfInBounds_toArray, List.set_cons_zero, List.set_cons_succ]
    refine wpAnyH_take (i := 3) (oi := ⟨some 22, Op.slice 23 (Operand.tmp 19) none (some (Operand.tmp 21)) none, 23, _, _, none⟩) (v := .slice (some ⟨gk, 0, none⟩) key.length (key.length + 8)) rfl (by kernel_rfl) (by kernel_rfl) (by kernel_rfl) (fun _ _ _ h => h) (yieldsIf_slice (by rfl) 23 (Operand.tmp 19) (Operand.tmp 21) rfl _ _ _ rfl rfl hslk) hHeld ?_
    simp only [Act.put, List.setIfInBounds_toArray, List.set_cons_zero, List.set_cons_succ]
    refine wpAnyH_take (i := 4) (oi := ⟨some 23, Op.move (Operand.tmp 7), 23, _, _, none⟩) (v := .slice (some ⟨gw, 0, none⟩) (b.length + 8) (b.length + 8)) rfl (by kernel_rfl) (by kernel_rfl) (by kernel_rfl) (fun _ _ _ h => h) (Or.inl ⟨by rfl, fun w hS => by go_simp⟩) hHeld ?_
    simp only [Act.put, List.setIfInBounds_toArray, List.set_cons_zero, List.set_cons_succ]
    refine wpAnyH_take (i := 5) (oi := ⟨some 24, Op.move (Operand.tmp 1), 23, _, _, none⟩) (v := .slice ba b.length bc) rfl (by kernel_rfl) (by kernel_rfl) (by kernel_rfl) (fun _ _ _ h => h) (Or.inl ⟨by rfl, fun w hS => by go_simp⟩) hHeld ?_
    simp only [Act.put, List.setIfInBounds_toArray, List.set_cons_zero, List.set_cons_succ]
    refine wpAnyH_take (i := 6) (oi := ⟨some 25, Op.call { callee := Callee.builtin Builtin.len, args := #[Operand.tmp 24], argTypes := #[23] }, 3, _, _, none⟩) (v := .int .i64 (b.length : Int)) rfl (by kernel_rfl) (by kernel_rfl) (by kernel_rfl) (fun _ _ _ h => h) (Or.inl ⟨by rfl, fun w hS => by go_simp⟩) hHeld ?_
    simp only [Act.put, List.setIfInBounds_toArray, List.set_cons_zero, List.set_cons_succ]
    refine wpAnyH_take (i := 7) (oi := ⟨some 26, Op.slice 23 (Operand.tmp 23) none (some (Operand.tmp 25)) none, 23, _, _, none⟩) (v := .slice (some ⟨gw, 0, none⟩) b.length (b.length + 8)) rfl (by kernel_rfl) (by kernel_rfl) (by kernel_rfl) (fun _ _ _ h => h) (yieldsIf_slice (by rfl) 23 (Operand.tmp 23) (Operand.tmp 25) rfl _ _ _ rfl rfl hslw) hHeld ?_
    simp only [Act.put, List.setIfInBounds_toArray, List.set_cons_zero, List.set_cons_succ]
    refine wpAnyH_ready (rs := [8, 9]) (by kernel_rfl) (by simp) ?_
    refine AllReadyH.cons (o := ⟨some 27, Op.call { callee := Callee.value (Operand.func 10), args := #[Operand.tmp 22, Operand.tmp 26], argTypes := #[23, 23] }, 26, _, _, none⟩) rfl (fun K hK => ?_) (AllReadyH.cons (o := ⟨some 8, Op.alloc 26, 0, _, _, none⟩) rfl (fun K hK => ?_) AllReadyH.nil)
    all_goals rw [if_pos (by rfl)]
    · refine wp_callF 10 _ _ rfl Try.enter10 #[.slice (some ⟨gk, 0, none⟩) key.length (key.length + 8), .slice (some ⟨gw, 0, none⟩) b.length (b.length + 8)] (by simp [Act.eval]) (fun vz wz => vz = .agg ca ∧ Below w3.heap.size w3 wz ∧ Below w3.drew.heap.size w3.drew wz) ?_ ?_
      · refine (HMac.out _ _ key b w3.drew ((HK3.out.below hD0 HK3.out.lt).row _ (by omega)) ((HW3.out.below hD0 HW3.out.lt).row _ (by omega)) HKl.out HBl.out).mono ?_
        rintro e wz ⟨rfl, hbz⟩
        exact ⟨_, rfl, by rw [Hca.out], hD0.trans (hbz.mono hD0.size), hbz⟩
      rintro vz w7 ⟨rfl, hb7, hb8⟩
      refine hK.out _ _ trivial fun hHeld2 => ?_
      clear hK
      simp only [Act.put, List.setIfInBounds_toArray, List.set_cons_zero, List.set_cons_succ]
      refine wpAnyH_ready (rs := [9]) (by kernel_rfl) (by simp) ?_
      refine AllReadyH.cons (o := ⟨some 8, Op.alloc 26, 0, _, _, none⟩) rfl (fun K hK => ?_) AllReadyH.nil
      rw [if_pos (by rfl)]
      refine wp_newA 26 rfl _ Try.new26 ?_
      refine hK.out _ _ trivial fun hHeld3 => ?_
      clear hK
      simp only [Act.put, List.setIfInBounds_toArray, List.set_cons_zero, List.set_cons_succ]
      refine wpAnyH_ready (rs := [10]) (by kernel_rfl) (by simp) ?_
      refine AllReadyH.cons (o := ⟨none, Op.store 26 (Operand.tmp 8) (Operand.tmp 27), 0, _, _, none⟩) rfl (fun K hK => ?_) AllReadyH.nil
      rw [if_pos (by rfl)]
      refine wp_store_row 26 (.tmp 8) (.tmp 27) rfl w7.heap.size ca rfl rfl 26 (bytesA 32 fun _ => 0) (Blk.new w7 26 (bytesA 32 fun _ => 0)) HIca.out HZca.out HOca.out ?_
      refine hK.out _ _ trivial fun _ => ?_
      clear hK
      refine wpAnyH_done (by kernel_rfl) ?_ _
      go_wp2_with fail
      go_meet
      case rel => exact ⟨_, rfl, hb7.size, (Blk.new w7 26 (bytesA 32 fun _ => 0)).setRow ca, below_setRow (hb7.alloc hb7.size _) hb7.size ca⟩
    · refine wp_newA 26 rfl _ Try.new26 ?_
      refine hK.out _ _ trivial fun hHeld1 => ?_
      clear hK
      simp only [Act.put, List.setIfInBounds_toArray, List.set_cons_zero, List.set_cons_succ]
      have hNn := Blk.new w3.drew 26 (bytesA 32 fun _ => 0)
      have hBn : Below w3.heap.size w3 (w3.drew.alloc (.cells (bytesA 32 fun _ => 0) 26)) := hD0.alloc (Nat.le_refl _) _
      generalize w3.drew.alloc (.cells (bytesA 32 fun _ => 0) 26) = wn at *
      refine wpAnyH_ready (rs := [8]) (by kernel_rfl) (by simp) ?_
      refine AllReadyH.cons (o := ⟨some 27, Op.call { callee := Callee.value (Operand.func 10), args := #[Operand.tmp 22, Operand.tmp 26], argTypes := #[23, 23] }, 26, _, _, none⟩) rfl (fun K hK => ?_) AllReadyH.nil
      rw [if_pos (by rfl)]
      refine wp_callF 10 _ _ rfl Try.enter10 #[.slice (some ⟨gk, 0, none⟩) key.length (key.length + 8), .slice (some ⟨gw, 0, none⟩) b.length (b.length + 8)] (by simp [Act.eval]) (fun vz wz => vz = .agg ca ∧ Below w3.heap.size w3 wz ∧ Below wn.heap.size wn wz) ?_ ?_
      · refine (HMac.out _ _ key b wn ((HK3.out.below hBn HK3.out.lt).row _ (by omega)) ((HW3.out.below hBn HW3.out.lt).row _ (by omega)) HKl.out HBl.out).mono ?_
        rintro e wz ⟨rfl, hbz⟩
        exact ⟨_, rfl, by rw [Hca.out], hBn.trans (hbz.mono hBn.size), hbz⟩
      rintro vz w7 ⟨rfl, hb7, hb8⟩
      refine hK.out _ _ trivial fun hHeld2 => ?_
      clear hK
      simp only [Act.put, List.setIfInBounds_toArray, List.set_cons_zero, List.set_cons_succ]
      have hN7 := hNn.below hb8 hNn.lt
      refine wpAnyH_ready (rs := [10]) (by kernel_rfl) (by simp) ?_
      refine AllReadyH.cons (o := ⟨none, Op.store 26 (Operand.tmp 8) (Operand.tmp 27), 0, _, _, none⟩) rfl (fun K hK => ?_) AllReadyH.nil
      rw [if_pos (by rfl)]
      refine wp_store_row 26 (.tmp 8) (.tmp 27) rfl w3.heap.size ca rfl rfl 26 (bytesA 32 fun _ => 0) hN7 HIca.out HZca.out HOca.out ?_
      refine hK.out _ _ trivial fun _ => ?_
      clear hK
      refine wpAnyH_done (by kernel_rfl) ?_ _
      go_wp2_with fail
      go_meet
      case rel => exact ⟨_, rfl, Nat.le_refl _, hN7.setRow ca, below_setRow hb7 (Nat.le_refl _) ca⟩
  case rest =>
    obtain ⟨g8, hs8, hg8, hN8, hb8⟩ := hcut
    subst hs8
    obtain ⟨w4, rfl⟩ : ∃ w4, w4 = wc := ⟨_, rfl⟩
    have GA4 := Keep.mk hN8
    have HB4 := Keep.mk (HB3.out.trans (hb8.mono HB3.out.size))
    have HK4 := Keep.mk (HK3.out.below hb8 HK3.out.lt)
    have HW4 := Keep.mk (HW3.out.below hb8 HW3.out.lt)
    clear HB3 HK3 HW3
    clear hN8 hb8
    go_wp2_with fail
    try simp only [Act.put, List.setIfInBounds_toArray, List.set_cons_zero, List.set_cons_succ]
    go_cut [9] from 28 to 36 (fun sx wx => ∃ g9, sx = ptr g9 ∧ w4.heap.size ≤ g9 ∧ Blk wx g9 26 ca ∧ Below w4.heap.size w4 wx)
    case first =>
      have hD0 : Below w4.heap.size w4 w4.drew := (Below.refl _ _).drew
      refine wp_region_held_drew (S := fun _ => True) (by kernel_rfl) trivial (fun hHeld => ?_)
      refine wpAnyH_take (i := 0) (oi := ⟨some 28, Op.move (Operand.tmp 6), 23, _, _, none⟩) (v := .slice (some ⟨gk, 0, none⟩) (key.length + 8) (key.length + 8)) rfl (by kernel_rfl) (by kernel_rfl) (by kernel_rfl) (fun _ _ _ h => h) (Or.inl ⟨by rfl, fun w hS => by go_simp⟩) hHeld ?_
      simp only [Act.put, List.setIfInBounds_toArray, List.set_cons_zero, List.set_cons_succ]
      refine wpAnyH_take (i := 1) (oi := ⟨some 29, Op.move (Operand.tmp 0), 23, _, _, none⟩) (v := .slice ka key.length kc) rfl (by kernel_rfl) (by kernel_rfl) (by kernel_rfl) (fun _ _ _ h => h) (Or.inl ⟨by rfl, fun w hS => by go_simp⟩) hHeld ?_
      simp only [Act.put, List.setIfInBounds_toArray, List.set_cons_zero, List.set_cons_succ]
      refine wpAnyH_take (i := 2) (oi := ⟨some 30, Op.call { callee := Callee.builtin Builtin.len, args := #[Operand.tmp 29], argTypes := #[23] }, 3, _, _, none⟩) (v := .int .i64 (key.length : Int)) rfl (by kernel_rfl) (by kernel_rfl) (by kernel_rfl) (fun _ _ _ h => h) (Or.inl ⟨by rfl, fun w hS => by go_simp⟩) hHeld ?_
      simp only [Act.put, List.setIfInBounds_toArray, List.set_cons_zero, List.set_cons_succ]
      refine wpAnyH_take (i := 3) (oi := ⟨some 31, Op.slice 23 (Operand.tmp 28) none (some (Operand.tmp 30)) none, 23, _, _, none⟩) (v := .slice (some ⟨gk, 0, none⟩) key.length (key.length + 8)) rfl (by kernel_rfl) (by kernel_rfl) (by kernel_rfl) (fun _ _ _ h => h) (yieldsIf_slice (by rfl) 23 (Operand.tmp 28) (Operand.tmp 30) rfl _ _ _ rfl rfl hslk) hHeld ?_
      simp only [Act.put, List.setIfInBounds_toArray, List.set_cons_zero, List.set_cons_succ]
      refine wpAnyH_take (i := 4) (oi := ⟨some 32, Op.move (Operand.tmp 7), 23, _, _, none⟩) (v := .slice (some ⟨gw, 0, none⟩) (b.length + 8) (b.length + 8)) rfl (by kernel_rfl) (by kernel_rfl) (by kernel_rfl) (fun _ _ _ h => h) (Or.inl ⟨by rfl, fun w hS => by go_simp⟩) hHeld ?_
      simp only [Act.put, List.setIfInBounds_toArray, List.set_cons_zero, List.set_cons_succ]
      refine wpAnyH_take (i := 5) (oi := ⟨some 33, Op.move (Operand.tmp 1), 23, _, _, none⟩) (v := .slice ba b.length bc) rfl (by kernel_rfl) (by kernel_rfl) (by kernel_rfl) (fun _ _ _ h => h) (Or.inl ⟨by rfl, fun w hS => by go_simp⟩) hHeld ?_
      simp only [Act.put, List.setIfInBounds_toArray, List.set_cons_zero, List.set_cons_succ]
      refine wpAnyH_take (i := 6) (oi := ⟨some 34, Op.call { callee := Callee.builtin Builtin.len, args := #[Operand.tmp 33], argTypes := #[23] }, 3, _, _, none⟩) (v := .int .i64 (b.length : Int)) rfl (by kernel_rfl) (by kernel_rfl) (by kernel_rfl) (fun _ _ _ h => h) (Or.inl ⟨by rfl, fun w hS => by go_simp⟩) hHeld ?_
      simp only [Act.put, List.setIfInBounds_toArray, List.set_cons_zero, List.set_cons_succ]
      refine wpAnyH_take (i := 7) (oi := ⟨some 35, Op.slice 23 (Operand.tmp 32) none (some (Operand.tmp 34)) none, 23, _, _, none⟩) (v := .slice (some ⟨gw, 0, none⟩) b.length (b.length + 8)) rfl (by kernel_rfl) (by kernel_rfl) (by kernel_rfl) (fun _ _ _ h => h) (yieldsIf_slice (by rfl) 23 (Operand.tmp 32) (Operand.tmp 34) rfl _ _ _ rfl rfl hslw) hHeld ?_
      simp only [Act.put, List.setIfInBounds_toArray, List.set_cons_zero, List.set_cons_succ]
      refine wpAnyH_ready (rs := [8, 9]) (by kernel_rfl) (by simp) ?_
      refine AllReadyH.cons (o := ⟨some 36, Op.call { callee := Callee.value (Operand.func 10), args := #[Operand.tmp 31, Operand.tmp 35], argTypes := #[23, 23] }, 26, _, _, none⟩) rfl (fun K hK => ?_) (AllReadyH.cons (o := ⟨some 9, Op.alloc 26, 0, _, _, none⟩) rfl (fun K hK => ?_) AllReadyH.nil)
      all_goals rw [if_pos (by rfl)]
      · refine wp_callF 10 _ _ rfl Try.enter10 #[.slice (some ⟨gk, 0, none⟩) key.length (key.length + 8), .slice (some ⟨gw, 0, none⟩) b.length (b.length + 8)] (by simp [Act.eval]) (fun vz wz => vz = .agg ca ∧ Below w4.heap.size w4 wz ∧ Below w4.drew.heap.size w4.drew wz) ?_ ?_
        · refine (HMac.out _ _ key b w4.drew ((HK4.out.below hD0 HK4.out.lt).row _ (by omega)) ((HW4.out.below hD0 HW4.out.lt).row _ (by omega)) HKl.out HBl.out).mono ?_
          rintro e wz ⟨rfl, hbz⟩
          exact ⟨_, rfl, by rw [Hca.out], hD0.trans (hbz.mono hD0.size), hbz⟩
        rintro vz w7 ⟨rfl, hb7, hb8⟩
        refine hK.out _ _ trivial fun hHeld2 => ?_
        clear hK
        simp only [Act.put, List.setIfInBounds_toArray, List.set_cons_zero, List.set_cons_succ]
        refine wpAnyH_ready (rs := [9]) (by kernel_rfl) (by simp) ?_
        refine AllReadyH.cons (o := ⟨some 9, Op.alloc 26, 0, _, _, none⟩) rfl (fun K hK => ?_) AllReadyH.nil
        rw [if_pos (by rfl)]
        refine wp_newA 26 rfl _ Try.new26 ?_
        refine hK.out _ _ trivial fun hHeld3 => ?_
        clear hK
        simp only [Act.put, List.setIfInBounds_toArray, List.set_cons_zero, List.set_cons_succ]
        refine wpAnyH_ready (rs := [10]) (by kernel_rfl) (by simp) ?_
        refine AllReadyH.cons (o := ⟨none, Op.store 26 (Operand.tmp 9) (Operand.tmp 36), 0, _, _, none⟩) rfl (fun K hK => ?_) AllReadyH.nil
        rw [if_pos (by rfl)]
        refine wp_store_row 26 (.tmp 9) (.tmp 36) rfl w7.heap.size ca rfl rfl 26 (bytesA 32 fun _ => 0) (Blk.new w7 26 (bytesA 32 fun _ => 0)) HIca.out HZca.out HOca.out ?_
        refine hK.out _ _ trivial fun _ => ?_
        clear hK
        refine wpAnyH_done (by kernel_rfl) ?_ _
        go_wp2_with fail
        go_meet
        case rel => exact ⟨_, rfl, hb7.size, (Blk.new w7 26 (bytesA 32 fun _ => 0)).setRow ca, below_setRow (hb7.alloc hb7.size _) hb7.size ca⟩
      · refine wp_newA 26 rfl _ Try.new26 ?_
        refine hK.out _ _ trivial fun hHeld1 => ?_
        clear hK
        simp only [Act.put, List.setIfInBounds_toArray, List.set_cons_zero, List.set_cons_succ]
        have hNn := Blk.new w4.drew 26 (bytesA 32 fun _ => 0)
        have hBn : Below w4.heap.size w4 (w4.drew.alloc (.cells (bytesA 32 fun _ => 0) 26)) := hD0.alloc (Nat.le_refl _) _
        generalize w4.drew.alloc (.cells (bytesA 32 fun _ => 0) 26) = wn at *
        refine wpAnyH_ready (rs := [8]) (by kernel_rfl) (by simp) ?_
        refine AllReadyH.cons (o := ⟨some 36, Op.call { callee := Callee.value (Operand.func 10), args := #[Operand.tmp 31, Operand.tmp 35], argTypes := #[23, 23] }, 26, _, _, none⟩) rfl (fun K hK => ?_) AllReadyH.nil
        rw [if_pos (by rfl)]
        refine wp_callF 10 _ _ rfl Try.enter10 #[.slice (some ⟨gk, 0, none⟩) key.length (key.length + 8), .slice (some ⟨gw, 0, none⟩) b.length (b.length + 8)] (by simp [Act.eval]) (fun vz wz => vz = .agg ca ∧ Below w4.heap.size w4 wz ∧ Below wn.heap.size wn wz) ?_ ?_
        · refine (HMac.out _ _ key b wn ((HK4.out.below hBn HK4.out.lt).row _ (by omega)) ((HW4.out.below hBn HW4.out.lt).row _ (by omega)) HKl.out HBl.out).mono ?_
          rintro e wz ⟨rfl, hbz⟩
          exact ⟨_, rfl, by rw [Hca.out], hBn.trans (hbz.mono hBn.size), hbz⟩
        rintro vz w7 ⟨rfl, hb7, hb8⟩
        refine hK.out _ _ trivial fun hHeld2 => ?_
        clear hK
        simp only [Act.put, List.setIfInBounds_toArray, List.set_cons_zero, List.set_cons_succ]
        have hN7 := hNn.below hb8 hNn.lt
        refine wpAnyH_ready (rs := [10]) (by kernel_rfl) (by simp) ?_
        refine AllReadyH.cons (o := ⟨none, Op.store 26 (Operand.tmp 9) (Operand.tmp 36), 0, _, _, none⟩) rfl (fun K hK => ?_) AllReadyH.nil
        rw [if_pos (by rfl)]
        refine wp_store_row 26 (.tmp 9) (.tmp 36) rfl w4.heap.size ca rfl rfl 26 (bytesA 32 fun _ => 0) hN7 HIca.out HZca.out HOca.out ?_
        refine hK.out _ _ trivial fun _ => ?_
        clear hK
        refine wpAnyH_done (by kernel_rfl) ?_ _
        go_wp2_with fail
        go_meet
        case rel => exact ⟨_, rfl, Nat.le_refl _, hN7.setRow ca, below_setRow hb7 (Nat.le_refl _) ca⟩
    case rest =>
      obtain ⟨g9, hs9, hg9, hN9, hb9⟩ := hcut
      subst hs9
      obtain ⟨w5, rfl⟩ : ∃ w5, w5 = wc := ⟨_, rfl⟩
      have GB5 := Keep.mk hN9
      have HB5 := Keep.mk (HB4.out.trans (hb9.mono HB4.out.size))
      have HK5 := Keep.mk (HK4.out.below hb9 HK4.out.lt)
      have HW5 := Keep.mk (HW4.out.below hb9 HW4.out.lt)
      have GA5 := Keep.mk (GA4.out.below hb9 GA4.out.lt)
      clear HB4 HK4 HW4 GA4
      clear hN9 hb9
      go_wp2_with fail
      refine (refMac_any _ _ key b w5 (HRk.out.below HB5.out) (HRb.out.below HB5.out) HKl.out HBl.out).mono ?_
      rintro e w6 ⟨rfl, hb6⟩
      rw [← Hca.out]
      have HB6 := Keep.mk (HB5.out.trans (hb6.mono HB5.out.size))
      have HK6 := Keep.mk (HK5.out.below hb6 HK5.out.lt)
      have HW6 := Keep.mk (HW5.out.below hb6 HW5.out.lt)
      have GA6 := Keep.mk (GA5.out.below hb6 GA5.out.lt)
      have GB6 := Keep.mk (GB5.out.below hb6 GB5.out.lt)
      clear HB5 HK5 HW5 GA5 GB5
      clear hb6
      go_wp2_with (first | (refine wpList_new rfl 26 rfl _ Try.new26 ?_; refine Hid.out ?_))
      refine hid_in ?_
      have HN7 := Keep.mk (Blk.new w6 26 (bytesA 32 fun _ => 0))
      have HA7 := Keep.mk (below_new w6 (.cells (bytesA 32 fun _ => 0) 26))
      generalize w6.alloc (.cells (bytesA 32 fun _ => 0) 26) = w7 at *
      go_wp2_with (first | (refine wpList_store_row rfl 26 (.tmp 10) (.tmp 39) rfl w6.heap.size ca rfl rfl 26 (bytesA 32 fun _ => 0) HN7.out HIca.out HZca.out HOca.out ?_; refine Hid.out ?_))
      refine hid_in ?_
      have hb8 := below_setRow HA7.out (Nat.le_refl _) ca
      have GC8 := Keep.mk (HN7.out.setRow ca)
      generalize w7.setRow w6.heap.size ca = w8 at *
      have HB8 := Keep.mk (HB6.out.trans (hb8.mono HB6.out.size))
      have HK8 := Keep.mk (HK6.out.below hb8 HK6.out.lt)
      have HW8 := Keep.mk (HW6.out.below hb8 HW6.out.lt)
      have GA8 := Keep.mk (GA6.out.below hb8 GA6.out.lt)
      have GB8 := Keep.mk (GB6.out.below hb8 GB6.out.lt)
      clear HB6 HK6 HW6 GA6 GB6
      clear hb8 HN7 HA7
      go_wp2_with fail
      refine (kept3_any gk _ key w8 HK8.out (HRk.out.below HB8.out) (by have := HKl.out; omega)).mono ?_
      rintro e w9 ⟨rfl, q9, hw9⟩
      have hb9 : Below w8.heap.size w8 w9 := by rw [hw9]; exact ⟨rfl, rfl, rfl, Nat.le_refl _, fun _ _ => rfl⟩
      have HB9 := Keep.mk (HB8.out.trans (hb9.mono HB8.out.size))
      have HK9 := Keep.mk (HK8.out.below hb9 HK8.out.lt)
      have HW9 := Keep.mk (HW8.out.below hb9 HW8.out.lt)
      have GA9 := Keep.mk (GA8.out.below hb9 GA8.out.lt)
      have GB9 := Keep.mk (GB8.out.below hb9 GB8.out.lt)
      have GC9 := Keep.mk (GC8.out.below hb9 GC8.out.lt)
      clear HB8 HK8 HW8 GA8 GB8 GC8
      clear hb9 hw9
      go_wp2_with fail
      refine (kept3_any gw _ b w9 HW9.out (HRb.out.below HB9.out) (by have := HBl.out; omega)).mono ?_
      rintro e w10 ⟨rfl, q10, hw10⟩
      have hb10 : Below w9.heap.size w9 w10 := by rw [hw10]; exact ⟨rfl, rfl, rfl, Nat.le_refl _, fun _ _ => rfl⟩
      have HB10 := Keep.mk (HB9.out.trans (hb10.mono HB9.out.size))
      have HK10 := Keep.mk (HK9.out.below hb10 HK9.out.lt)
      have HW10 := Keep.mk (HW9.out.below hb10 HW9.out.lt)
      have GA10 := Keep.mk (GA9.out.below hb10 GA9.out.lt)
      have GB10 := Keep.mk (GB9.out.below hb10 GB9.out.lt)
      have GC10 := Keep.mk (GC9.out.below hb10 GC9.out.lt)
      clear HB9 HK9 HW9 GA9 GB9 GC9
      clear hb10 hw10
      have hnq : ∀ wx, (binOp .neq 26 (.agg ca) (.agg ca)).run Try.prog wx = .ok (.bool false) wx := fun wx => by rw [Hca.out]; exact neq_arr _ wx
      go_wp2_with (first | (refine wpList_load_rowW (by rfl) 26 (.tmp 8) rfl g8 rfl 26 ca (0, 0) (.array 32 5) GA10.out Try.underlying26 rfl HIca.out ?_) | (refine wpList_load_rowW (by rfl) 26 (.tmp 9) rfl g9 rfl 26 ca (0, 0) (.array 32 5) GB10.out Try.underlying26 rfl HIca.out ?_) | (refine wpList_load_rowW (by rfl) 26 (.tmp 10) rfl w6.heap.size rfl 26 ca (0, 0) (.array 32 5) GC10.out Try.underlying26 rfl HIca.out ?_))
      refine (turn3_any gk key w10 HK10.out (by have := HKl.out; omega)).mono ?_
      rintro e w11 ⟨rfl, hK11, hg11⟩
      have hb11 : Below w.heap.size w10 w11 := hg11.to_below (fun k hk e => by have := Hgk.out; omega) HB10.out.size
      have HB11 := Keep.mk (HB10.out.trans hb11)
      have HK11 := Keep.mk hK11
      have HW11 : Keep (Wd w11 gw b) := ⟨hg11.blk HW10.out (fun e => by have := Hgkw.out; omega)⟩
      clear hb11 hg11 hK11 HB10 HK10 HW10 GA10 GB10 GC10 hnq
      go_wp2_with fail
      refine (turn3_any gw b w11 HW11.out (by have := HBl.out; omega)).mono ?_
      rintro e w12 ⟨rfl, hW12, hg12⟩
      have hb12 : Below w.heap.size w11 w12 := hg12.to_below (fun k hk e => by have := Hgk.out; have := Hgkw.out; omega) HB11.out.size
      have HB12 := Keep.mk (HB11.out.trans hb12)
      have HW12 := Keep.mk hW12
      have HK12 : Keep (Wd w12 gk (tnL key)) := ⟨hg12.blk HK11.out (fun e => by have := Hgkw.out; omega)⟩
      clear hb12 hg12 hW12 HB11 HK11 HW11
      obtain ⟨k2, hk2⟩ : ∃ k2, Keep (k2 = tnL key) := ⟨_, ⟨rfl⟩⟩
      obtain ⟨b2, hb2⟩ : ∃ b2, Keep (b2 = tnL b) := ⟨_, ⟨rfl⟩⟩
      rw [← hk2.out] at HK12
      rw [← hb2.out] at HW12
      have HKl2 : Keep (k2.length ≤ 140737488351232) := ⟨by rw [hk2.out, tnL_len]; exact HKl.out⟩
      have HBl2 : Keep (b2.length ≤ 140737488351232) := ⟨by rw [hb2.out, tnL_len]; exact HBl.out⟩
      have HRk2 : Keep (∀ wx, Below w12.heap.size w12 wx → RowAt wx (.slice (some ⟨gk, 0, none⟩) key.length (key.length + 8)) k2) := ⟨fun wx hx => by
        have h := (HK12.out.below hx HK12.out.lt).row (key.length + 8) (by rw [hk2.out, tnL_len]; omega)
        rw [hk2.out, tnL_len] at h
        rw [hk2.out]; exact h⟩
      have HRb2 : Keep (∀ wx, Below w12.heap.size w12 wx → RowAt wx (.slice (some ⟨gw, 0, none⟩) b.length (b.length + 8)) b2) := ⟨fun wx hx => by
        have h := (HW12.out.below hx HW12.out.lt).row (b.length + 8) (by rw [hb2.out, tnL_len]; omega)
        rw [hb2.out, tnL_len] at h
        rw [hb2.out]; exact h⟩
      clear hk2 hb2 HK12 HW12 Hca HIca HZca HOca
      obtain ⟨cd, Hcd⟩ : ∃ cd, Keep (cd = bytesA 32 (macP k2 b2)) := ⟨_, ⟨rfl⟩⟩
      have HIcd : Keep ((Try.prog.info? 26).map (·.size) = some cd.size) := ⟨by rw [Hcd.out]; exact Try.size26B _⟩
      have HZcd : Keep ((bytesA 32 fun _ => 0).size = cd.size) := ⟨by rw [Hcd.out]; exact bytesA_sizes _ _ _⟩
      have HOcd : Keep (cd.all (·.oneCell') = true) := ⟨by rw [Hcd.out]; exact bytesA_one _ _⟩
      go_wp2_with fail
      try simp only [Act.put, List.setIfInBounds_toArray, List.set_cons_zero, List.set_cons_succ]
      go_cut [13] from 70 to 78 (fun sx wx => ∃ g13, sx = ptr g13 ∧ w12.heap.size ≤ g13 ∧ Blk wx g13 26 cd ∧ Below w12.heap.size w12 wx)
      case first =>
        have hD0 : Below w12.heap.size w12 w12.drew := (Below.refl _ _).drew
        refine wp_region_held_drew (S := fun _ => True) (by kernel_rfl) trivial (fun hHeld => ?_)
        refine wpAnyH_take (i := 0) (oi := ⟨some 70, Op.move (Operand.tmp 6), 23, _, _, none⟩) (v := .slice (some ⟨gk, 0, none⟩) (key.length + 8) (key.length + 8)) rfl (by kernel_rfl) (by kernel_rfl) (by kernel_rfl) (fun _ _ _ h => h) (Or.inl ⟨by rfl, fun w hS => by go_simp⟩) hHeld ?_
        simp only [Act.put, List.setIfInBounds_toArray, List.set_cons_zero, List.set_cons_succ]
        refine wpAnyH_take (i := 1) (oi := ⟨some 71, Op.move (Operand.tmp 0), 23, _, _, none⟩) (v := .slice ka key.length kc) rfl (by kernel_rfl) (by kernel_rfl) (by kernel_rfl) (fun _ _ _ h => h) (Or.inl ⟨by rfl, fun w hS => by go_simp⟩) hHeld ?_
        simp only [Act.put, List.setIfInBounds_toArray, List.set_cons_zero, List.set_cons_succ]
        refine wpAnyH_take (i := 2) (oi := ⟨some 72, Op.call { callee := Callee.builtin Builtin.len, args := #[Operand.tmp 71], argTypes := #[23] }, 3, _, _, none⟩) (v := .int .i64 (key.length : Int)) rfl (by kernel_rfl) (by kernel_rfl) (by kernel_rfl) (fun _ _ _ h => h) (Or.inl ⟨by rfl, fun w hS => by go_simp⟩) hHeld ?_
        simp only [Act.put, List.setIfInBounds_toArray, List.set_cons_zero, List.set_cons_succ]
        refine wpAnyH_take (i := 3) (oi := ⟨some 73, Op.slice 23 (Operand.tmp 70) none (some (Operand.tmp 72)) none, 23, _, _, none⟩) (v := .slice (some ⟨gk, 0, none⟩) key.length (key.length + 8)) rfl (by kernel_rfl) (by kernel_rfl) (by kernel_rfl) (fun _ _ _ h => h) (yieldsIf_slice (by rfl) 23 (Operand.tmp 70) (Operand.tmp 72) rfl _ _ _ rfl rfl hslk) hHeld ?_
        simp only [Act.put, List.setIfInBounds_toArray, List.set_cons_zero, List.set_cons_succ]
        refine wpAnyH_take (i := 4) (oi := ⟨some 74, Op.move (Operand.tmp 7), 23, _, _, none⟩) (v := .slice (some ⟨gw, 0, none⟩) (b.length + 8) (b.length + 8)) rfl (by kernel_rfl) (by kernel_rfl) (by kernel_rfl) (fun _ _ _ h => h) (Or.inl ⟨by rfl, fun w hS => by go_simp⟩) hHeld ?_
        simp only [Act.put, List.setIfInBounds_toArray, List.set_cons_zero, List.set_cons_succ]
        refine wpAnyH_take (i := 5) (oi := ⟨some 75, Op.move (Operand.tmp 1), 23, _, _, none⟩) (v := .slice ba b.length bc) rfl (by kernel_rfl) (by kernel_rfl) (by kernel_rfl) (fun _ _ _ h => h) (Or.inl ⟨by rfl, fun w hS => by go_simp⟩) hHeld ?_
        simp only [Act.put, List.setIfInBounds_toArray, List.set_cons_zero, List.set_cons_succ]
        refine wpAnyH_take (i := 6) (oi := ⟨some 76, Op.call { callee := Callee.builtin Builtin.len, args := #[Operand.tmp 75], argTypes := #[23] }, 3, _, _, none⟩) (v := .int .i64 (b.length : Int)) rfl (by kernel_rfl) (by kernel_rfl) (by kernel_rfl) (fun _ _ _ h => h) (Or.inl ⟨by rfl, fun w hS => by go_simp⟩) hHeld ?_
        simp only [Act.put, List.setIfInBounds_toArray, List.set_cons_zero, List.set_cons_succ]
        refine wpAnyH_take (i := 7) (oi := ⟨some 77, Op.slice 23 (Operand.tmp 74) none (some (Operand.tmp 76)) none, 23, _, _, none⟩) (v := .slice (some ⟨gw, 0, none⟩) b.length (b.length + 8)) rfl (by kernel_rfl) (by kernel_rfl) (by kernel_rfl) (fun _ _ _ h => h) (yieldsIf_slice (by rfl) 23 (Operand.tmp 74) (Operand.tmp 76) rfl _ _ _ rfl rfl hslw) hHeld ?_
        simp only [Act.put, List.setIfInBounds_toArray, List.set_cons_zero, List.set_cons_succ]
        refine wpAnyH_ready (rs := [8, 9]) (by kernel_rfl) (by simp) ?_
        refine AllReadyH.cons (o := ⟨some 78, Op.call { callee := Callee.value (Operand.func 10), args := #[Operand.tmp 73, Operand.tmp 77], argTypes := #[23, 23] }, 26, _, _, none⟩) rfl (fun K hK => ?_) (AllReadyH.cons (o := ⟨some 13, Op.alloc 26, 0, _, _, none⟩) rfl (fun K hK => ?_) AllReadyH.nil)
        all_goals rw [if_pos (by rfl)]
        · refine wp_callF 10 _ _ rfl Try.enter10 #[.slice (some ⟨gk, 0, none⟩) key.length (key.length + 8), .slice (some ⟨gw, 0, none⟩) b.length (b.length + 8)] (by simp [Act.eval]) (fun vz wz => vz = .agg cd ∧ Below w12.heap.size w12 wz ∧ Below w12.drew.heap.size w12.drew wz) ?_ ?_
          · refine (HMac.out _ _ k2 b2 w12.drew (HRk2.out _ hD0) (HRb2.out _ hD0) HKl2.out HBl2.out).mono ?_
            rintro e wz ⟨rfl, hbz⟩
            exact ⟨_, rfl, by rw [Hcd.out], hD0.trans (hbz.mono hD0.size), hbz⟩
          rintro vz w7 ⟨rfl, hb7, hb8⟩
          refine hK.out _ _ trivial fun hHeld2 => ?_
          clear hK
          simp only [Act.put, List.setIfInBounds_toArray, List.set_cons_zero, List.set_cons_succ]
          refine wpAnyH_ready (rs := [9]) (by kernel_rfl) (by simp) ?_
          refine AllReadyH.cons (o := ⟨some 13, Op.alloc 26, 0, _, _, none⟩) rfl (fun K hK => ?_) AllReadyH.nil
          rw [if_pos (by rfl)]
          refine wp_newA 26 rfl _ Try.new26 ?_
          refine hK.out _ _ trivial fun hHeld3 => ?_
          clear hK
          simp only [Act.put, List.setIfInBounds_toArray, List.set_cons_zero, List.set_cons_succ]
          refine wpAnyH_ready (rs := [10]) (by kernel_rfl) (by simp) ?_
          refine AllReadyH.cons (o := ⟨none, Op.store 26 (Operand.tmp 13) (Operand.tmp 78), 0, _, _, none⟩) rfl (fun K hK => ?_) AllReadyH.nil
          rw [if_pos (by rfl)]
          refine wp_store_row 26 (.tmp 13) (.tmp 78) rfl w7.heap.size cd rfl rfl 26 (bytesA 32 fun _ => 0) (Blk.new w7 26 (bytesA 32 fun _ => 0)) HIcd.out HZcd.out HOcd.out ?_
          refine hK.out _ _ trivial fun _ => ?_
          clear hK
          refine wpAnyH_done (by kernel_rfl) ?_ _
          go_wp2_with fail
          go_meet
          case rel => exact ⟨_, rfl, hb7.size, (Blk.new w7 26 (bytesA 32 fun _ => 0)).setRow cd, below_setRow (hb7.alloc hb7.size _) hb7.size cd⟩
        · refine wp_newA 26 rfl _ Try.new26 ?_
          refine hK.out _ _ trivial fun hHeld1 => ?_
          clear hK
          simp only [Act.put, List.setIfInBounds_toArray, List.set_cons_zero, List.set_cons_succ]
          have hNn := Blk.new w12.drew 26 (bytesA 32 fun _ => 0)
          have hBn : Below w12.heap.size w12 (w12.drew.alloc (.cells (bytesA 32 fun _ => 0) 26)) := hD0.alloc (Nat.le_refl _) _
          generalize w12.drew.alloc (.cells (bytesA 32 fun _ => 0) 26) = wn at *
          refine wpAnyH_ready (rs := [8]) (by kernel_rfl) (by simp) ?_
          refine AllReadyH.cons (o := ⟨some 78, Op.call { callee := Callee.value (Operand.func 10), args := #[Operand.tmp 73, Operand.tmp 77], argTypes := #[23, 23] }, 26, _, _, none⟩) rfl (fun K hK => ?_) AllReadyH.nil
          rw [if_pos (by rfl)]
          refine wp_callF 10 _ _ rfl Try.enter10 #[.slice (some ⟨gk, 0, none⟩) key.length (key.length + 8), .slice (some ⟨gw, 0, none⟩) b.length (b.length + 8)] (by simp [Act.eval]) (fun vz wz => vz = .agg cd ∧ Below w12.heap.size w12 wz ∧ Below wn.heap.size wn wz) ?_ ?_
          · refine (HMac.out _ _ k2 b2 wn (HRk2.out _ hBn) (HRb2.out _ hBn) HKl2.out HBl2.out).mono ?_
            rintro e wz ⟨rfl, hbz⟩
            exact ⟨_, rfl, by rw [Hcd.out], hBn.trans (hbz.mono hBn.size), hbz⟩
          rintro vz w7 ⟨rfl, hb7, hb8⟩
          refine hK.out _ _ trivial fun hHeld2 => ?_
          clear hK
          simp only [Act.put, List.setIfInBounds_toArray, List.set_cons_zero, List.set_cons_succ]
          have hN7 := hNn.below hb8 hNn.lt
          refine wpAnyH_ready (rs := [10]) (by kernel_rfl) (by simp) ?_
          refine AllReadyH.cons (o := ⟨none, Op.store 26 (Operand.tmp 13) (Operand.tmp 78), 0, _, _, none⟩) rfl (fun K hK => ?_) AllReadyH.nil
          rw [if_pos (by rfl)]
          refine wp_store_row 26 (.tmp 13) (.tmp 78) rfl w12.heap.size cd rfl rfl 26 (bytesA 32 fun _ => 0) hN7 HIcd.out HZcd.out HOcd.out ?_
          refine hK.out _ _ trivial fun _ => ?_
          clear hK
          refine wpAnyH_done (by kernel_rfl) ?_ _
          go_wp2_with fail
          go_meet
          case rel => exact ⟨_, rfl, Nat.le_refl _, hN7.setRow cd, below_setRow hb7 (Nat.le_refl _) cd⟩
      case rest =>
        obtain ⟨g13, hs13, hg13, hN13, hb13⟩ := hcut
        subst hs13
        obtain ⟨w13, rfl⟩ : ∃ w13, w13 = wc := ⟨_, rfl⟩
        have GD := Keep.mk hN13
        have HB13 := Keep.mk (HB12.out.trans (hb13.mono HB12.out.size))
        have H1213 := Keep.mk hb13
        obtain ⟨CM, hCM⟩ : ∃ CM, Keep (CM = cd.toList) := ⟨_, ⟨rfl⟩⟩
        have hCA : CM.toArray = cd := by rw [hCM.out]
        have hi : (Try.prog.info? 26).map (·.size) = some CM.length := by rw [hCM.out, Array.length_toList]; exact HIcd.out
        have hu := Try.underlying26
        have HS : Keep (∀ wx, Below w13.heap.size w13 wx → wx.rangeAt g13 0 CM) := ⟨fun wx hx => by rw [hCM.out]; exact blk_range (GD.out.below hx GD.out.lt)⟩
        have hD0 : Below w13.heap.size w13 w13.drew := (Below.refl _ _).drew
        have heq : ∀ wx, (binOp .eql 26 (.agg cd) (.agg cd)).run Try.prog wx = .ok (.bool true) wx := fun wx => by rw [Hcd.out]; exact run_eql_arr _ wx
        clear hN13 hb13 HB12
        go_wp2_with fail
        refine wp_region_held_drew (S := fun wx => wx.rangeAt g13 0 CM) (by kernel_rfl) (HS.out _ hD0) (fun hHeld => ?_)
        refine wpAnyH_take (i := 0) (oi := ⟨some 79, Op.load 26 (Operand.tmp 13), 26, _, _, none⟩) (v := .agg (CM).toArray) rfl (by kernel_rfl) (by kernel_rfl) (by kernel_rfl) (fun _ _ _ h => h) (yieldsIf_load_mid (by rfl) 26 (Operand.tmp 13) rfl g13 0 rfl CM _ (fun w hS => hS) hu rfl hi) hHeld ?_
        simp only [Act.put, List.setIfInBounds_toArray, List.set_cons_zero, List.set_cons_succ]
        rw [hCA]
        refine wpAnyH_take (i := 1) (oi := ⟨some 80, Op.move (Operand.tmp 6), 23, _, _, none⟩) (v := .slice (some ⟨gk, 0, none⟩) (key.length + 8) (key.length + 8)) rfl (by kernel_rfl) (by kernel_rfl) (by kernel_rfl) (fun _ _ _ h => h) (Or.inl ⟨by rfl, fun w hS => by go_simp⟩) hHeld ?_
        simp only [Act.put, List.setIfInBounds_toArray, List.set_cons_zero, List.set_cons_succ]
        refine wpAnyH_take (i := 2) (oi := ⟨some 81, Op.move (Operand.tmp 0), 23, _, _, none⟩) (v := .slice ka key.length kc) rfl (by kernel_rfl) (by kernel_rfl) (by kernel_rfl) (fun _ _ _ h => h) (Or.inl ⟨by rfl, fun w hS => by go_simp⟩) hHeld ?_
        simp only [Act.put, List.setIfInBounds_toArray, List.set_cons_zero, List.set_cons_succ]
        refine wpAnyH_take (i := 3) (oi := ⟨some 82, Op.call { callee := Callee.builtin Builtin.len, args := #[Operand.tmp 81], argTypes := #[23] }, 3, _, _, none⟩) (v := .int .i64 (key.length : Int)) rfl (by kernel_rfl) (by kernel_rfl) (by kernel_rfl) (fun _ _ _ h => h) (Or.inl ⟨by rfl, fun w hS => by go_simp⟩) hHeld ?_
        simp only [Act.put, List.setIfInBounds_toArray, List.set_cons_zero, List.set_cons_succ]
        refine wpAnyH_take (i := 4) (oi := ⟨some 83, Op.slice 23 (Operand.tmp 80) none (some (Operand.tmp 82)) none, 23, _, _, none⟩) (v := .slice (some ⟨gk, 0, none⟩) key.length (key.length + 8)) rfl (by kernel_rfl) (by kernel_rfl) (by kernel_rfl) (fun _ _ _ h => h) (yieldsIf_slice (by rfl) 23 (Operand.tmp 80) (Operand.tmp 82) rfl _ _ _ rfl rfl hslk) hHeld ?_
        simp only [Act.put, List.setIfInBounds_toArray, List.set_cons_zero, List.set_cons_succ]
        refine wpAnyH_take (i := 5) (oi := ⟨some 84, Op.move (Operand.tmp 7), 23, _, _, none⟩) (v := .slice (some ⟨gw, 0, none⟩) (b.length + 8) (b.length + 8)) rfl (by kernel_rfl) (by kernel_rfl) (by kernel_rfl) (fun _ _ _ h => h) (Or.inl ⟨by rfl, fun w hS => by go_simp⟩) hHeld ?_
        simp only [Act.put, List.setIfInBounds_toArray, List.set_cons_zero, List.set_cons_succ]
        refine wpAnyH_take (i := 6) (oi := ⟨some 85, Op.move (Operand.tmp 1), 23, _, _, none⟩) (v := .slice ba b.length bc) rfl (by kernel_rfl) (by kernel_rfl) (by kernel_rfl) (fun _ _ _ h => h) (Or.inl ⟨by rfl, fun w hS => by go_simp⟩) hHeld ?_
        simp only [Act.put, List.setIfInBounds_toArray, List.set_cons_zero, List.set_cons_succ]
        refine wpAnyH_take (i := 7) (oi := ⟨some 86, Op.call { callee := Callee.builtin Builtin.len, args := #[Operand.tmp 85], argTypes := #[23] }, 3, _, _, none⟩) (v := .int .i64 (b.length : Int)) rfl (by kernel_rfl) (by kernel_rfl) (by kernel_rfl) (fun _ _ _ h => h) (Or.inl ⟨by rfl, fun w hS => by go_simp⟩) hHeld ?_
        simp only [Act.put, List.setIfInBounds_toArray, List.set_cons_zero, List.set_cons_succ]
        refine wpAnyH_take (i := 8) (oi := ⟨some 87, Op.slice 23 (Operand.tmp 84) none (some (Operand.tmp 86)) none, 23, _, _, none⟩) (v := .slice (some ⟨gw, 0, none⟩) b.length (b.length + 8)) rfl (by kernel_rfl) (by kernel_rfl) (by kernel_rfl) (fun _ _ _ h => h) (yieldsIf_slice (by rfl) 23 (Operand.tmp 84) (Operand.tmp 86) rfl _ _ _ rfl rfl hslw) hHeld ?_
        simp only [Act.put, List.setIfInBounds_toArray, List.set_cons_zero, List.set_cons_succ]
        refine wpAnyH_ready (rs := [9]) (by kernel_rfl) (by simp) ?_
        refine AllReadyH.cons (o := ⟨some 88, Op.call { callee := Callee.value (Operand.func 11), args := #[Operand.tmp 83, Operand.tmp 87], argTypes := #[23, 23] }, 26, _, _, none⟩) rfl (fun K hK => ?_) AllReadyH.nil
        rw [if_pos (by rfl)]
        refine wp_callF 11 _ _ rfl Try.enter11 #[.slice (some ⟨gk, 0, none⟩) key.length (key.length + 8), .slice (some ⟨gw, 0, none⟩) b.length (b.length + 8)] (by simp [Act.eval]) (fun vz wz => vz = .agg cd ∧ Below w13.heap.size w13 wz) ?_ ?_
        · refine (refMac_any _ _ k2 b2 w13.drew (HRk2.out _ (H1213.out.trans (hD0.mono H1213.out.size))) (HRb2.out _ (H1213.out.trans (hD0.mono H1213.out.size))) HKl2.out HBl2.out).mono ?_
          rintro e wz ⟨rfl, hbz⟩
          exact ⟨_, rfl, by rw [Hcd.out], hD0.trans (hbz.mono hD0.size)⟩
        rintro vz w14 ⟨rfl, hb14⟩
        have HB14 := Keep.mk (HB13.out.trans (hb14.mono HB13.out.size))
        refine hK.out _ _ (HS.out _ hb14) fun hHeld2 => ?_
        clear hK hb14
        simp only [Act.put, List.setIfInBounds_toArray, List.set_cons_zero, List.set_cons_succ]
        refine wpAnyH_take (i := 10) (oi := ⟨some 89, Op.binOp BinOp.eql 26 (Operand.tmp 79) (Operand.tmp 88) 26, 4, _, _, none⟩) (v := .bool true) rfl (by kernel_rfl) (by kernel_rfl) (by kernel_rfl) (fun _ _ _ h => h) (Or.inl ⟨by rfl, fun w hS => by go_simp⟩) hHeld2 ?_
        simp only [Act.put, List.setIfInBounds_toArray, List.set_cons_zero, List.set_cons_succ]
        refine wpAnyH_take (i := 11) (oi := ⟨some 4, Op.assign (Operand.tmp 89), 4, _, _, none⟩) (v := .bool true) rfl (by kernel_rfl) (by kernel_rfl) (by kernel_rfl) (fun _ _ _ h => h) (Or.inl ⟨by rfl, fun w hS => by go_simp⟩) hHeld2 ?_
        simp only [Act.put, List.setIfInBounds_toArray, List.set_cons_zero, List.set_cons_succ]
        refine wpAnyH_done (by kernel_rfl) ?_ _
        clear hHeld hHeld2
        go_wp2
        go_ret
        exact ⟨rfl, HB14.out⟩
end Go.Proofs.Ytpakaladpdoejaa
