import Derived.Test.YtpakaladpdoejaaDoorKitC
namespace Go.Proofs.YtpakaladpdoejaaDoor
open Go.RowKit

/-- Eight marks. -/
def mk8 (t : Nat) : List Int := (List.range t).map fun i : Nat => 161 + (i : Int)
theorem mk8_len (t : Nat) : (mk8 t).length = t := by simp [mk8]
theorem mk8_next (t : Nat) : mk8 (t + 1) = mk8 t ++ [161 + (t : Int)] := by simp [mk8, List.range_succ]
/-- Bytes at the head of a block, eight marks behind them. -/
def Wd (w : World) (g : Nat) (l : List Int) : Prop := Blk w g 5 (bv (l ++ mk8 8)).toArray
theorem Wd.cell {w : World} {g : Nat} {l : List Int} (h : Wd w g l) (i : Nat) (hi : i < l.length + 8) : w.cell? ⟨g, i, none⟩ = some (.int .u8 ((l ++ mk8 8).getD i 0)) := by
  rw [Blk.cell h, List.getElem?_toArray, bv_get _ _ (by rw [List.length_append, mk8_len]; exact hi)]
theorem Wd.row {w : World} {g : Nat} {l : List Int} (h : Wd w g l) (cap : Nat) (hc : l.length ≤ cap) : RowAt w (.slice (some ⟨g, 0, none⟩) l.length cap) l := by
  refine .inr (.inr ⟨g, 0, cap, rfl, hc, fun i hi => ?_⟩)
  rw [Nat.zero_add, h.cell i (by omega)]
  simp [List.getD_eq_getElem?_getD, List.getElem?_append, hi]
theorem wide_next (l : List Int) (t : Nat) (ht : t < 8) : (bv (l ++ mk8 t ++ List.replicate (8 - t) 0)).toArray.setIfInBounds (l.length + t) (.int .u8 (161 + (t : Int))) = (bv (l ++ mk8 (t + 1) ++ List.replicate (8 - (t + 1)) 0)).toArray := by
  rw [List.setIfInBounds_toArray, mk8_next, show 8 - t = (8 - (t + 1)) + 1 by omega, List.replicate_succ]
  congr 1
  have e : l ++ mk8 t ++ 0 :: List.replicate (8 - (t + 1)) 0 = (l ++ mk8 t) ++ (0 : Int) :: List.replicate (8 - (t + 1)) 0 := rfl
  have hl : l.length + t = (bv (l ++ mk8 t)).length := by rw [bv_len, List.length_append, mk8_len]
  rw [e, bv_app, hl, List.set_append_right _ _ (Nat.le_refl _), Nat.sub_self]
  simp [bv]

set_option maxRecDepth 8000 in
set_option maxHeartbeats 1000000 in
set_option maxRecDepth 8000 in
theorem wide3_any (v : Value) (l : List Int) (w : World) (hr : RowAt w v l) (hb : l.length + 8 ≤ 140737488355328) :
    Calls Tryd.prog 5 #[v] w fun e w' => e = .returned (.slice (some ⟨w.heap.size, 0, none⟩) (l.length + 8) (l.length + 8)) ∧ Wd w' w.heap.size l ∧ Below w.heap.size w w' := by
  have HR := Keep.mk (hr.below (below_new w (.cells (bytesA (l.length + 8) fun _ => 0) 5)))
  obtain ⟨xa, xc, rfl⟩ := row_form hr
  have h8 : ((l.length : Int) + 8) = ((l.length + 8 : Nat) : Int) := by omega
  have hsm : (l.length : Int) ≤ 9223372036854775000 := by omega
  have hmk := run_makeB (l.length + 8) (l.length + 8) (Nat.le_refl _) (by omega) w
  have hmk2 : (Instr.makeSlice 22 (.int .i64 ((l.length : Int) + 8)) (.int .i64 ((l.length : Int) + 8))).run Tryd.prog w = .ok (.slice (some ⟨w.heap.size, 0, none⟩) (l.length + 8) (l.length + 8)) (w.alloc (.cells (bytesA (l.length + 8) fun _ => 0) 5)) := by rw [h8]; exact hmk
  have HN := Keep.mk (Blk.new w 5 (bytesA (l.length + 8) fun _ => 0))
  have HBe := Keep.mk (below_new w (.cells (bytesA (l.length + 8) fun _ => 0) 5))
  have hcp := run_copyG (w.alloc (.cells (bytesA (l.length + 8) fun _ => 0) 5)) w.heap.size 0 (l.length + 8) (l.length + 8) _ l 3 5 _ HN.out (by omega) (by rw [bytesA_size]; omega) HR.out
  have hrow : ((bytesA (l.length + 8) fun _ => 0).toList.take 0 ++ bv l ++ (bytesA (l.length + 8) fun _ => 0).toList.drop (0 + l.length)).toArray = (bv (l ++ mk8 0 ++ List.replicate (8 - 0) 0)).toArray := by
    congr 1
    have : (bytesA (l.length + 8) fun _ => 0).toList = List.replicate (l.length + 8) (.int .u8 0) := by
      apply List.ext_getElem?
      intro i
      rw [Array.getElem?_toList]
      by_cases h : i < l.length + 8
      · rw [bytesA_get _ _ _ h]; simp [h]
      · rw [Array.getElem?_eq_none (by rw [bytesA_size]; omega)]; simp [h]
    rw [this]
    simp [bv, mk8]
  rw [hrow] at hcp
  have HW0 := Keep.mk (HN.out.setRow (bv (l ++ mk8 0 ++ List.replicate (8 - 0) 0)).toArray)
  have HB0 := Keep.mk (below_setRow HBe.out (Nat.le_refl _) (bv (l ++ mk8 0 ++ List.replicate (8 - 0) 0)).toArray)
  obtain ⟨cs0, hcs0⟩ : ∃ cs0, Keep (cs0 = (bv (l ++ mk8 0 ++ List.replicate (8 - 0) 0)).toArray) := ⟨_, ⟨rfl⟩⟩
  rw [← hcs0.out] at hcp HW0 HB0
  clear hr hb hmk h8 hrow HN HBe HR
  go_enter Tryd.func5, Tryd.ntmps5
  generalize w.alloc (.cells (bytesA (l.length + 8) fun _ => 0) 5) = w1 at *
  go_wp2_with fail
  go_loopw [4] (fun i wr => ∃ t : Nat, t ≤ 8 ∧ i = .int .i64 t ∧ Blk wr w.heap.size 5 (bv (l ++ mk8 t ++ List.replicate (8 - t) 0)).toArray ∧ Below w.heap.size w wr) (fun i _ => 8 - (intOf i).toNat)
  case atStart => exact ⟨0, by omega, rfl, hcs0.out ▸ HW0.out, HB0.out⟩
  case round =>
    clear HW0 HB0 hcp hmk2 hcs0
    obtain ⟨t, ht, rfl, hB, hBl⟩ := hrel
    by_cases hlt : t < 8
    · have hlt' : (t : Int) < 8 := by omega
      have hwr : IntKind.u8.wrap (161 + (t : Int)) = 161 + (t : Int) := by rw [IntKind.wrap_u8]; omega
      have hlen : (l ++ mk8 t ++ List.replicate (8 - t) (0 : Int)).length = l.length + 8 := by simp [mk8_len]; omega
      have cc : wr.cell? ⟨w.heap.size, l.length + t, none⟩ = some (.int .u8 ((l ++ mk8 t ++ List.replicate (8 - t) 0).getD (l.length + t) 0)) := by
        rw [hB.cell, List.getElem?_toArray, bv_get _ _ (by rw [hlen]; omega)]
      have ff := hB.frozen (l.length + t)
      have HB := Keep.mk (hB.set (l.length + t) (.int .u8 (161 + (t : Int))))
      have HBl := Keep.mk (hBl.setCell (Nat.le_refl _) (p := ⟨w.heap.size, l.length + t, none⟩) (.int .u8 (161 + (t : Int))))
      rw [wide_next l t hlt] at HB
      clear hB hBl hlen
      generalize (l ++ mk8 t ++ List.replicate (8 - t) 0).getD (l.length + t) 0 = z at *
      go_wp2
      go_roundw
      case rel => exact ⟨t + 1, by omega, by go_num, HB.out, HBl.out⟩
      case measure => simp only [intOf]; omega
    · obtain rfl : t = 8 := by omega
      have HB : Keep (Wd wr w.heap.size l) := ⟨by simpa [Wd] using hB⟩
      have HBl := Keep.mk hBl
      clear hB hBl
      go_wp2
      go_ret
      exact ⟨rfl, HB.out, HBl.out⟩

theorem Wd.drewN {w : World} {g : Nat} {l : List Int} (h : Wd w g l) (n : Nat) : Wd (w.drewN n) g l := h
theorem RowAt.drewN {w : World} {v : Value} {l : List Int} (h : RowAt w v l) (n : Nat) : RowAt (w.drewN n) v l := h.grown ((Grown.refl w fun _ => False).drewN n) fun _ _ _ h => h
set_option maxRecDepth 8000 in
set_option maxHeartbeats 1000000 in
theorem kept3_any (g : Nat) (vb : Value) (l : List Int) (w : World) (hW : Wd w g l) (hr : RowAt w vb l) (hb : l.length + 8 ≤ 140737488355328) :
    Calls Tryd.prog 8 #[.slice (some ⟨g, 0, none⟩) (l.length + 8) (l.length + 8), vb] w fun e w' => e = .returned (.bool true) ∧ ∃ q, w' = w.drewN q := by
  have HW := Keep.mk hW
  obtain ⟨xa, xc, rfl⟩ := row_form hr
  obtain ⟨s, hs⟩ : ∃ s, Keep (s = strOfNums l) := ⟨_, ⟨rfl⟩⟩
  have hc1 : ∀ n, (convert 22 9 (.slice (some ⟨g, 0, none⟩) l.length (l.length + 8))).run Tryd.prog (w.drewN n) = .ok (.string s) (w.drewN n) := fun n => by rw [hs.out]; exact conv_row _ l _ ((hW.drewN n).row _ (by omega))
  have hc2 : ∀ n, (convert 22 9 (.slice xa l.length xc)).run Tryd.prog (w.drewN n) = .ok (.string s) (w.drewN n) := fun n => by rw [hs.out]; exact conv_row _ l _ (hr.drewN n)
  have hsl := sl_run (some ⟨g, 0, none⟩) (l.length + 8) (l.length + 8) l.length (by omega)
  have hsm : (l.length : Int) ≤ 9223372036854775000 := by omega
  have h8 : ((l.length : Int) + 8) = ((l.length + 8 : Nat) : Int) := by omega
  clear hW hr hb hs h8
  go_enter Tryd.func8, Tryd.ntmps8
  go_wp2_with fail
  go_quiet (fail)
  have HWq := Keep.mk (HW.out.drewN nq)
  obtain ⟨w1, hw1⟩ : ∃ w1, Keep (w1 = w.drewN nq) := ⟨_, ⟨rfl⟩⟩
  rw [← hw1.out] at HWq ⊢
  clear hc1 hc2 hsl HW
  go_wp2
  go_loop [5] (fun i => ∃ t : Nat, t ≤ 8 ∧ i = .int .i64 t) (fun i => 8 - (intOf i).toNat)
  case atStart => exact ⟨0, by omega, rfl⟩
  case round =>
    obtain ⟨t, ht, rfl⟩ := hrel
    by_cases hlt : t < 8
    · have hlt' : (t : Int) < 8 := by omega
      have hwr : IntKind.u8.wrap (161 + (t : Int)) = 161 + (t : Int) := by rw [IntKind.wrap_u8]; omega
      have cc : w1.cell? ⟨g, l.length + t, none⟩ = some (.int .u8 (161 + (t : Int))) := by
        rw [HWq.out.cell _ (by omega)]
        simp [List.getD_eq_getElem?_getD, mk8, hlt]
      go_wp2
      refine ⟨⟨t + 1, by omega, by go_num⟩, by simp only [intOf]; omega⟩
    · obtain rfl : t = 8 := by omega
      go_wp2
      go_ret
      exact ⟨rfl, nq, hw1.out⟩

/-- Bytes written over. -/
def tnL (l : List Int) : List Int := l.map fun c => bits .xor .u8 (IntKind.u8.wrap (c * 5)) 59
theorem tnL_len (l : List Int) : (tnL l).length = l.length := by simp [tnL]
theorem turn_next (l : List Int) (t : Nat) (ht : t < l.length) (z : Int) (hz : z = l.getD t 0) : (bv (tnL (l.take t) ++ l.drop t ++ mk8 8)).toArray.setIfInBounds t (.int .u8 (bits .xor .u8 (IntKind.u8.wrap (z * 5)) 59)) = (bv (tnL (l.take (t + 1)) ++ l.drop (t + 1) ++ mk8 8)).toArray := by
  rw [List.setIfInBounds_toArray]
  congr 1
  have e1 : l.drop t = l.getD t 0 :: l.drop (t + 1) := by
    rw [List.drop_eq_getElem_cons ht, List.getD_eq_getElem?_getD, List.getElem?_eq_getElem ht, Option.getD_some]
  have e2 : l.take (t + 1) = l.take t ++ [l.getD t 0] := by
    rw [List.take_add_one, List.getElem?_eq_getElem ht, List.getD_eq_getElem?_getD, List.getElem?_eq_getElem ht, Option.getD_some]; rfl
  have hl : t = (bv (tnL (l.take t))).length := by rw [bv_len, tnL_len, List.length_take]; omega
  rw [e1, e2, List.append_assoc, bv_app]
  conv => lhs; arg 2; rw [hl]
  rw [List.set_append_right _ _ (Nat.le_refl _), Nat.sub_self]
  simp [bv, tnL, hz]

set_option maxRecDepth 8000 in
set_option maxHeartbeats 1000000 in
theorem turn3_any (g : Nat) (l : List Int) (w : World) (hW : Wd w g l) (hb : l.length + 8 ≤ 140737488355328) :
    Calls Tryd.prog 11 #[.slice (some ⟨g, 0, none⟩) (l.length + 8) (l.length + 8)] w fun e w' => e = .returned (.tuple #[]) ∧ Wd w' g (tnL l) ∧ Grown w w' fun k => k = g := by
  have hsm : (l.length : Int) ≤ 9223372036854775000 := by omega
  have HW : Keep (Blk w g 5 (bv (tnL (l.take 0) ++ l.drop 0 ++ mk8 8)).toArray) := ⟨by simpa [Wd, tnL] using hW⟩
  clear hW hb
  go_enter Tryd.func11, Tryd.ntmps11
  go_wp2_with fail
  go_loopw [2] (fun i wr => ∃ t : Nat, t ≤ l.length ∧ i = .int .i64 t ∧ Blk wr g 5 (bv (tnL (l.take t) ++ l.drop t ++ mk8 8)).toArray ∧ Grown w wr fun k => k = g) (fun i _ => l.length - (intOf i).toNat)
  case atStart => exact ⟨0, by omega, rfl, HW.out, Grown.refl _ _⟩
  case round =>
    clear HW
    obtain ⟨t, ht, rfl, hB, hG⟩ := hrel
    by_cases hlt : t < l.length
    · have hlt' : (t : Int) + 8 < (l.length : Int) + 8 := by omega
      have hlt2 : (t : Int) < (l.length : Int) + 8 := by omega
      obtain ⟨z, hz⟩ : ∃ z, Keep (z = l.getD t 0) := ⟨_, ⟨rfl⟩⟩
      have cc : wr.cell? ⟨g, t, none⟩ = some (.int .u8 z) := by
        rw [hB.cell, List.getElem?_toArray, bv_get _ _ (by simp [tnL_len, mk8_len]; omega), hz.out]
        congr 2
        rw [List.getD_eq_getElem?_getD, List.getElem?_append_left (by simp [tnL_len]; omega), List.getElem?_append_right (by simp [tnL_len]; omega)]
        simp [tnL_len, List.getD_eq_getElem?_getD, Nat.min_eq_left ht]
      have ff := hB.frozen t
      have HB := Keep.mk (hB.set t (.int .u8 (bits .xor .u8 (IntKind.u8.wrap (z * 5)) 59)))
      have HG := Keep.mk (hG.trans (Grown.setCell wr g t (.int .u8 (bits .xor .u8 (IntKind.u8.wrap (z * 5)) 59)) (S := fun k => k = g) fun _ => rfl))
      rw [turn_next l t hlt z hz.out] at HB
      clear hB hG hz
      go_wp2
      go_roundw
      case rel => exact ⟨t + 1, by omega, by go_num, HB.out, HG.out⟩
      case measure => simp only [intOf]; omega
    · obtain rfl : t = l.length := by omega
      have hlt' : ¬ ((l.length : Int) + 8 < (l.length : Int) + 8) := by omega
      have HB : Keep (Wd wr g (tnL l)) := ⟨by simpa [Wd] using hB⟩
      have HG := Keep.mk hG
      clear hB hG
      go_wp2
      go_end0
      exact ⟨rfl, HB.out, HG.out⟩

set_option maxRecDepth 8000 in
set_option maxHeartbeats 1000000 in
theorem same3_any (va vb : Value) (l m : List Int) (w : World) (ha : RowAt w va l) (hb : RowAt w vb m) (e : Bool) (he : e = (strOfNums l == strOfNums m)) :
    Calls Tryd.prog 10 #[va, vb] w fun r w' => r = .returned (.bool e) ∧ w' = w := by
  have hc1 := conv_row va l w ha
  have hc2 := conv_row vb m w hb
  obtain ⟨xa, xc, rfl⟩ := row_form ha
  obtain ⟨ya, yc, rfl⟩ := row_form hb
  obtain ⟨s, hs⟩ : ∃ s, Keep (s = strOfNums l) := ⟨_, ⟨rfl⟩⟩
  obtain ⟨t, ht⟩ : ∃ t, Keep (t = strOfNums m) := ⟨_, ⟨rfl⟩⟩
  have HE := Keep.mk he
  rw [← hs.out] at hc1 HE
  rw [← ht.out] at hc2 HE
  clear ha hb he hs ht
  go_enter Tryd.func10, Tryd.ntmps10
  go_wp2
  go_ret
  exact ⟨by rw [HE.out, beq_toListBytes]; rfl, rfl⟩
end Go.Proofs.YtpakaladpdoejaaDoor
