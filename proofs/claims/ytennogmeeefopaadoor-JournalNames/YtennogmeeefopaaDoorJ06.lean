import Derived.Test.YtennogmeeefopaaDoorJ05
import Derived.Deep.RegionHeld3
import Derived.Deep.MidRow
import Derived.Lib.SlBytesConst
namespace Go.Proofs.YtennogmeeefopaaDoor
open Go.RowKit
set_option linter.unusedSimpArgs false
set_option linter.unusedVariables false

theorem Tryd.in28 (w : World) (vs : Array Value) : (callFunc 28 vs).run Tryd.prog w = .ok (.enter 28 vs) w := by kernel_rfl
set_option maxRecDepth 8000 in
theorem jsync_ok (g d p i k : Nat) (hk : k < 10000) (vf vp : Value) (cs : List FC) (D : DV) (sz : Int) (w : World) (hT : Tab w) (hJ : Blk w g 61 (jA d vp (k : Int) sz true false)) (hDk : Blk w d 75 #[ptr p]) (hD : DskAt w p vf cs D) (hO : D.out = false) (hF : fnd (nmS k) D.fs 0 = (i, true)) (hC : cs.length ≤ 256) (hA : 0 ≤ D.acts ∧ D.acts ≤ 4611686018427387904) (hFu : -9223372036854775808 < D.fuse ∧ D.fuse ≤ 9223372036854775807 ∧ ¬ D.fuse = 0) :
    Calls Tryd.prog 25 #[ptr g] w fun e w' => e = .returned (.int .i64 0) ∧ ∃ cs', Blk w' g 61 (jA d vp (k : Int) sz false false) ∧ DskAt w' p vf cs' (D.act.sync i) ∧ (Grown w w' fun k => k = g ∨ k = p ∨ vf.ownBlock = some k) ∧ ∀ k, DskS p vf cs' k → DskS p vf cs k := by
  have HK := Keep.mk hk
  have HT := Keep.mk hT
  have HJ := Keep.mk hJ
  have HDk := Keep.mk hDk
  have HD := Keep.mk hD
  have HO := Keep.mk hO
  have HF := Keep.mk hF
  have HC := Keep.mk hC
  have HA := Keep.mk hA
  have HFu := Keep.mk hFu
  clear hT hJ hDk hD hO hF hC hA hFu hk
  go_enter Tryd.func25, Tryd.ntmps25
  have c5 := HJ.out.c 5 (by rfl : (jA d vp (k : Int) sz true false)[5]? = some (.bool false))
  have c4 := HJ.out.c 4 (by rfl : (jA d vp (k : Int) sz true false)[4]? = some (.bool true))
  refine wp_seq_k fun K1 hK1 => ?_
  refine wp_region_list (WL.out ?_)
  refine WL.val (by kernel_rfl) (.int .i64 0) (by go_simp) ?_
  simp only [Act.put, List.setIfInBounds_toArray, List.set_cons_zero, List.set_cons_succ]
  refine WL.nil ?_
  refine hK1 _ _ ?_
  refine wp_seq_k fun K2 hK2 => ?_
  refine wp_seq_k fun K3 hK3 => ?_
  refine wp_region_list (WL.out ?_)
  refine WL.val (by kernel_rfl) (.pointer (some ⟨g, 0, none⟩)) (by go_simp) ?_
  simp only [Act.put, List.setIfInBounds_toArray, List.set_cons_zero, List.set_cons_succ]
  refine WL.val (by kernel_rfl) (.pointer (some ⟨g, 0, none⟩)) (by go_simp) ?_
  simp only [Act.put, List.setIfInBounds_toArray, List.set_cons_zero, List.set_cons_succ]
  refine WL.val (by kernel_rfl) (.pointer (some ⟨g, 5, none⟩)) (by go_simp) ?_
  simp only [Act.put, List.setIfInBounds_toArray, List.set_cons_zero, List.set_cons_succ]
  refine WL.val (by kernel_rfl) (.bool false) (by go_simp) ?_
  simp only [Act.put, List.setIfInBounds_toArray, List.set_cons_zero, List.set_cons_succ]
  refine WL.nil ?_
  refine hK3 _ _ ?_
  refine wp_cond_false rfl ?_
  refine wp_skip ?_
  refine hK2 _ _ ?_
  refine wp_seq_k fun K4 hK4 => ?_
  refine wp_seq_k fun K5 hK5 => ?_
  refine wp_region_list (WL.out ?_)
  refine WL.val (by kernel_rfl) (.pointer (some ⟨g, 0, none⟩)) (by go_simp) ?_
  simp only [Act.put, List.setIfInBounds_toArray, List.set_cons_zero, List.set_cons_succ]
  refine WL.val (by kernel_rfl) (.pointer (some ⟨g, 0, none⟩)) (by go_simp) ?_
  simp only [Act.put, List.setIfInBounds_toArray, List.set_cons_zero, List.set_cons_succ]
  refine WL.val (by kernel_rfl) (.pointer (some ⟨g, 4, none⟩)) (by go_simp) ?_
  simp only [Act.put, List.setIfInBounds_toArray, List.set_cons_zero, List.set_cons_succ]
  refine WL.val (by kernel_rfl) (.bool true) (by go_simp) ?_
  simp only [Act.put, List.setIfInBounds_toArray, List.set_cons_zero, List.set_cons_succ]
  refine WL.val (by kernel_rfl) (.bool false) (by go_simp) ?_
  simp only [Act.put, List.setIfInBounds_toArray, List.set_cons_zero, List.set_cons_succ]
  refine WL.nil ?_
  refine hK5 _ _ ?_
  refine wp_cond_false rfl ?_
  refine wp_skip ?_
  refine hK4 _ _ ?_
  refine wp_seq_k fun K6 hK6 => ?_
  refine wp_seq_k fun K7 hK7 => ?_
  clear c5 c4
  have D4 : Keep (Below w.heap.size w w.drew) := ⟨(Below.refl _ _).drew⟩
  have HS4 : Keep (∀ wx, Below w.heap.size w wx → wx.cell? ⟨g, 0, none⟩ = some (ptr d) ∧ wx.cell? ⟨g, 2, none⟩ = some (.int .i64 (k : Int))) := ⟨fun wx hx => ⟨(HJ.out.below hx HJ.out.lt).c 0 rfl, (HJ.out.below hx HJ.out.lt).c 2 rfl⟩⟩
  refine wp_region_held_drew (S := fun wx => wx.cell? ⟨g, 0, none⟩ = some (ptr d) ∧ wx.cell? ⟨g, 2, none⟩ = some (.int .i64 (k : Int))) (by kernel_rfl) (HS4.out _ D4.out) (fun hHeld => ?_)
  refine wpAnyH_take (i := 0) (oi := ⟨some 13, Op.move (Operand.tmp 0), 22, _, _, none⟩) (v := .pointer (some ⟨g, 0, none⟩)) rfl (by kernel_rfl) (by kernel_rfl) (by kernel_rfl) (fun _ _ _ h => h) (Or.inl ⟨by rfl, fun w hS => by obtain ⟨hS1, hS2⟩ := hS; go_simp⟩) hHeld ?_
  simp only [Act.put, List.setIfInBounds_toArray, List.set_cons_zero, List.set_cons_succ]
  refine wpAnyH_take (i := 1) (oi := ⟨some 14, Op.move (Operand.tmp 0), 22, _, _, none⟩) (v := .pointer (some ⟨g, 0, none⟩)) rfl (by kernel_rfl) (by kernel_rfl) (by kernel_rfl) (fun _ _ _ h => h) (Or.inl ⟨by rfl, fun w hS => by obtain ⟨hS1, hS2⟩ := hS; go_simp⟩) hHeld ?_
  simp only [Act.put, List.setIfInBounds_toArray, List.set_cons_zero, List.set_cons_succ]
  refine wpAnyH_take (i := 2) (oi := ⟨some 15, Op.nilCheck (Operand.tmp 14), 0, _, _, none⟩) (v := .pointer (some ⟨g, 0, none⟩)) rfl (by kernel_rfl) (by kernel_rfl) (by kernel_rfl) (fun _ _ _ h => h) (Or.inl ⟨by rfl, fun w hS => by obtain ⟨hS1, hS2⟩ := hS; go_simp⟩) hHeld ?_
  simp only [Act.put, List.setIfInBounds_toArray, List.set_cons_zero, List.set_cons_succ]
  refine wpAnyH_take (i := 3) (oi := ⟨some 16, Op.fieldAddr 61 (Operand.tmp 15) 0, 0, _, _, none⟩) (v := .pointer (some ⟨g, 0, none⟩)) rfl (by kernel_rfl) (by kernel_rfl) (by kernel_rfl) (fun _ _ _ h => h) (Or.inl ⟨by rfl, fun w hS => by obtain ⟨hS1, hS2⟩ := hS; go_simp⟩) hHeld ?_
  simp only [Act.put, List.setIfInBounds_toArray, List.set_cons_zero, List.set_cons_succ]
  refine wpAnyH_take (i := 4) (oi := ⟨some 17, Op.load 30 (Operand.tmp 16), 30, _, _, none⟩) (v := .pointer (some ⟨d, 0, none⟩)) rfl (by kernel_rfl) (by kernel_rfl) (by kernel_rfl) (fun _ _ _ h => h) (Or.inl ⟨by rfl, fun w hS => by obtain ⟨hS1, hS2⟩ := hS; go_simp⟩) hHeld ?_
  simp only [Act.put, List.setIfInBounds_toArray, List.set_cons_zero, List.set_cons_succ]
  refine wpAnyH_take (i := 5) (oi := ⟨some 18, Op.move (Operand.tmp 0), 22, _, _, none⟩) (v := .pointer (some ⟨g, 0, none⟩)) rfl (by kernel_rfl) (by kernel_rfl) (by kernel_rfl) (fun _ _ _ h => h) (Or.inl ⟨by rfl, fun w hS => by obtain ⟨hS1, hS2⟩ := hS; go_simp⟩) hHeld ?_
  simp only [Act.put, List.setIfInBounds_toArray, List.set_cons_zero, List.set_cons_succ]
  refine wpAnyH_take (i := 6) (oi := ⟨some 19, Op.nilCheck (Operand.tmp 18), 0, _, _, none⟩) (v := .pointer (some ⟨g, 0, none⟩)) rfl (by kernel_rfl) (by kernel_rfl) (by kernel_rfl) (fun _ _ _ h => h) (Or.inl ⟨by rfl, fun w hS => by obtain ⟨hS1, hS2⟩ := hS; go_simp⟩) hHeld ?_
  simp only [Act.put, List.setIfInBounds_toArray, List.set_cons_zero, List.set_cons_succ]
  refine wpAnyH_take (i := 7) (oi := ⟨some 20, Op.fieldAddr 61 (Operand.tmp 19) 2, 0, _, _, none⟩) (v := .pointer (some ⟨g, 2, none⟩)) rfl (by kernel_rfl) (by kernel_rfl) (by kernel_rfl) (fun _ _ _ h => h) (Or.inl ⟨by rfl, fun w hS => by obtain ⟨hS1, hS2⟩ := hS; go_simp⟩) hHeld ?_
  simp only [Act.put, List.setIfInBounds_toArray, List.set_cons_zero, List.set_cons_succ]
  refine wpAnyH_take (i := 8) (oi := ⟨some 21, Op.load 3 (Operand.tmp 20), 3, _, _, none⟩) (v := .int .i64 (k : Int)) rfl (by kernel_rfl) (by kernel_rfl) (by kernel_rfl) (fun _ _ _ h => h) (Or.inl ⟨by rfl, fun w hS => by obtain ⟨hS1, hS2⟩ := hS; go_simp⟩) hHeld ?_
  simp only [Act.put, List.setIfInBounds_toArray, List.set_cons_zero, List.set_cons_succ]
  refine wpAnyH_ready (rs := [9]) (by kernel_rfl) (by simp) ?_
  refine AllReadyH.cons (o := ⟨some 22, Op.call { callee := Callee.value (Operand.func 31), args := #[Operand.tmp 21], argTypes := #[3] }, 9, _, _, none⟩) rfl (fun K hK => ?_) AllReadyH.nil
  rw [if_pos (by rfl)]
  refine wp_callF 31 _ _ rfl Tryd.in31 #[.int .i64 (k : Int)] (by simp [Act.eval]) (fun vz wz => vz = .string (nmS k) ∧ Below w.heap.size w wz) ?_ ?_
  · refine (name_any k HK.out w.drew (HT.out.below D4.out (Nat.lt_of_le_of_lt (Nat.zero_le _) HJ.out.lt))).mono ?_
    rintro e wz ⟨rfl, h⟩
    exact ⟨_, rfl, rfl, D4.out.trans (h.mono D4.out.size)⟩
  rintro vz w5 ⟨rfl, h5⟩
  have B5 := Keep.mk h5
  clear h5
  obtain ⟨nn, hnn⟩ : ∃ s, Keep (s = nmS k) := ⟨_, ⟨rfl⟩⟩
  rw [← hnn.out]
  refine hK _ _ (HS4.out _ B5.out) fun hH5 => ?_
  clear hK
  simp only [Act.put, List.setIfInBounds_toArray, List.set_cons_zero, List.set_cons_succ]
  refine wpAnyH_ready (rs := [10]) (by kernel_rfl) (by simp) ?_
  refine AllReadyH.cons (o := ⟨some 23, Op.call { callee := Callee.value (Operand.func 43), args := #[Operand.tmp 17, Operand.tmp 22], argTypes := #[30, 9] }, 24, _, _, none⟩) rfl (fun K hK => ?_) AllReadyH.nil
  rw [if_pos (by rfl)]
  refine wp_callF 43 _ _ rfl Tryd.in43 #[ptr d, .string nn] (by simp [Act.eval]) (fun vz wz => vz = .int .i64 0 ∧ ∃ cs', DskAt wz p vf cs' (D.act.sync i) ∧ (Grown w5 wz fun k => k = p ∨ vf.ownBlock = some k) ∧ ∀ k, DskS p vf cs' k → DskS p vf cs k) ?_ ?_
  · refine (sync_is d p i nn vf cs D w5 (HDk.out.below B5.out HDk.out.lt) (HD.out.below B5.out) HO.out (by rw [hnn.out]; exact HF.out) HC.out HA.out HFu.out).mono ?_
    rintro e wz ⟨rfl, cs1, h1, h2, h3⟩
    exact ⟨_, rfl, rfl, cs1, h1, h2, h3⟩
  rintro vz w7 ⟨rfl, cs', h1, h2, h3⟩
  have HD7 := Keep.mk h1
  have N7 := Keep.mk h3
  have HJ7 : Keep (Blk w7 g 61 (jA d vp (k : Int) sz true false)) := ⟨h2.blk (HJ.out.below B5.out HJ.out.lt) (fun e => by rcases e with e | e; subst e; have := HJ.out.typ.one HD.out.blk.typ; revert this; decide; have := HJ.out.typ.one (HD.out.own.typ e); revert this; decide)⟩
  have GW7 : Keep (Grown w w7 fun k => k = p ∨ vf.ownBlock = some k) := ⟨(Grown.below B5.out).trans h2⟩
  clear h1 h2 h3
  refine hK _ _ (⟨HJ7.out.c 0 rfl, HJ7.out.c 2 rfl⟩) fun hH7 => ?_
  clear hK
  simp only [Act.put, List.setIfInBounds_toArray, List.set_cons_zero, List.set_cons_succ]
  refine wpAnyH_ready (rs := [11]) (by kernel_rfl) (by simp) ?_
  refine AllReadyH.cons (o := ⟨some 24, Op.call { callee := Callee.value (Operand.func 29), args := #[Operand.tmp 13, Operand.tmp 23], argTypes := #[22, 24] }, 24, _, _, none⟩) rfl (fun K hK => ?_) AllReadyH.nil
  rw [if_pos (by rfl)]
  refine wp_callF 29 _ _ rfl Tryd.in29 #[ptr g, .int .i64 0] (by simp [Act.eval]) (fun vz wz => vz = .int .i64 0 ∧ w7 = wz) ?_ ?_
  · refine (told_ok g 0 (by omega) w7).mono ?_
    rintro e wz ⟨rfl, h⟩
    exact ⟨_, rfl, rfl, h.symm⟩
  rintro vz wy ⟨rfl, hy⟩
  subst hy
  refine hK _ _ (⟨HJ7.out.c 0 rfl, HJ7.out.c 2 rfl⟩) fun hH8 => ?_
  clear hK
  simp only [Act.put, List.setIfInBounds_toArray, List.set_cons_zero, List.set_cons_succ]
  refine wpAnyH_take (i := 12) (oi := ⟨some 3, Op.assign (Operand.tmp 24), 24, _, _, none⟩) (v := .int .i64 0) rfl (by kernel_rfl) (by kernel_rfl) (by kernel_rfl) (fun _ _ _ h => h) (Or.inl ⟨by rfl, fun w hS => by obtain ⟨hS1, hS2⟩ := hS; go_simp⟩) hH8 ?_
  simp only [Act.put, List.setIfInBounds_toArray, List.set_cons_zero, List.set_cons_succ]
  refine wpAnyH_done (by kernel_rfl) ?_ _
  refine hK7 _ _ ?_
  refine wp_seq_k fun K8 hK8 => ?_
  refine wp_region_list (WL.out ?_)
  refine WL.val (by kernel_rfl) (.int .i64 0) (by go_simp) ?_
  simp only [Act.put, List.setIfInBounds_toArray, List.set_cons_zero, List.set_cons_succ]
  refine WL.val (by kernel_rfl) (.bool false) (by go_simp) ?_
  simp only [Act.put, List.setIfInBounds_toArray, List.set_cons_zero, List.set_cons_succ]
  refine WL.nil ?_
  refine hK8 _ _ ?_
  refine wp_cond_false rfl ?_
  refine wp_skip ?_
  refine hK6 _ _ ?_
  refine wp_seq_k fun K9 hK9 => ?_
  refine wp_region_list (WL.out ?_)
  have f_o := HJ7.out.frozen 4
  have c4 := HJ7.out.c 4 (by rfl : (jA d vp (k : Int) sz true false)[4]? = some (.bool true))
  refine WL.val (by kernel_rfl) (.pointer (some ⟨g, 0, none⟩)) (by go_simp) ?_
  simp only [Act.put, List.setIfInBounds_toArray, List.set_cons_zero, List.set_cons_succ]
  refine WL.val (by kernel_rfl) (.pointer (some ⟨g, 0, none⟩)) (by go_simp) ?_
  simp only [Act.put, List.setIfInBounds_toArray, List.set_cons_zero, List.set_cons_succ]
  refine WL.val (by kernel_rfl) (.pointer (some ⟨g, 4, none⟩)) (by go_simp) ?_
  simp only [Act.put, List.setIfInBounds_toArray, List.set_cons_zero, List.set_cons_succ]
  refine WL.cell (by kernel_rfl) (w7.setCell ⟨g, 4, none⟩ (.bool false)) (by go_simp) ?_
  clear f_o c4
  have HJ8 := Keep.mk (HJ7.out.set 4 (.bool false))
  have hgs : Grown w7 (w7.setCell ⟨g, 4, none⟩ (.bool false)) fun k => k = g := Grown.setCell w7 g 4 _ fun _ => rfl
  have HD8 := Keep.mk (HD7.out.grown hgs fun j hk e => by subst e; have hj := HJ7.out.typ; rcases hk with h | h | h <;> (have := h.one hj; revert this; decide))
  have GW8 : Keep (Grown w (w7.setCell ⟨g, 4, none⟩ (.bool false)) fun k => k = g ∨ k = p ∨ vf.ownBlock = some k) := ⟨(GW7.out.mono fun k _ h => .inr h).next hgs fun k _ e => .inl e⟩
  clear hgs
  generalize w7.setCell ⟨g, 4, none⟩ (.bool false) = w8 at *
  simp only [Act.put]
  refine WL.nil ?_
  refine hK9 _ _ ?_
  refine wp_seq_k fun K10 hK10 => ?_
  refine wp_region_list (WL.out ?_)
  refine WL.val (by kernel_rfl) (.int .i64 0) (by go_simp) ?_
  simp only [Act.put, List.setIfInBounds_toArray, List.set_cons_zero, List.set_cons_succ]
  refine WL.nil ?_
  refine hK10 _ _ ?_
  refine wp_ret ?_
  go_ret
  exact ⟨rfl, cs', HJ8.out, HD8.out, GW8.out, N7.out⟩
set_option maxRecDepth 8000 in
theorem jsync_idle (g : Nat) (w : World) (c5 : w.cell? ⟨g, 5, none⟩ = some (.bool false)) (c4 : w.cell? ⟨g, 4, none⟩ = some (.bool false)) : Calls Tryd.prog 25 #[ptr g] w fun e w' => e = .returned (.int .i64 0) ∧ w' = w := by
  go_enter Tryd.func25, Tryd.ntmps25
  refine wp_seq_k fun K1 hK1 => ?_
  refine wp_region_list (WL.out ?_)
  refine WL.val (by kernel_rfl) (.int .i64 0) (by go_simp) ?_
  simp only [Act.put, List.setIfInBounds_toArray, List.set_cons_zero, List.set_cons_succ]
  refine WL.nil ?_
  refine hK1 _ _ ?_
  refine wp_seq_k fun K2 hK2 => ?_
  refine wp_seq_k fun K3 hK3 => ?_
  refine wp_region_list (WL.out ?_)
  refine WL.val (by kernel_rfl) (.pointer (some ⟨g, 0, none⟩)) (by go_simp) ?_
  simp only [Act.put, List.setIfInBounds_toArray, List.set_cons_zero, List.set_cons_succ]
  refine WL.val (by kernel_rfl) (.pointer (some ⟨g, 0, none⟩)) (by go_simp) ?_
  simp only [Act.put, List.setIfInBounds_toArray, List.set_cons_zero, List.set_cons_succ]
  refine WL.val (by kernel_rfl) (.pointer (some ⟨g, 5, none⟩)) (by go_simp) ?_
  simp only [Act.put, List.setIfInBounds_toArray, List.set_cons_zero, List.set_cons_succ]
  refine WL.val (by kernel_rfl) (.bool false) (by go_simp) ?_
  simp only [Act.put, List.setIfInBounds_toArray, List.set_cons_zero, List.set_cons_succ]
  refine WL.nil ?_
  refine hK3 _ _ ?_
  refine wp_cond_false rfl ?_
  refine wp_skip ?_
  refine hK2 _ _ ?_
  refine wp_seq_k fun K4 hK4 => ?_
  refine wp_seq_k fun K5 hK5 => ?_
  refine wp_region_list (WL.out ?_)
  refine WL.val (by kernel_rfl) (.pointer (some ⟨g, 0, none⟩)) (by go_simp) ?_
  simp only [Act.put, List.setIfInBounds_toArray, List.set_cons_zero, List.set_cons_succ]
  refine WL.val (by kernel_rfl) (.pointer (some ⟨g, 0, none⟩)) (by go_simp) ?_
  simp only [Act.put, List.setIfInBounds_toArray, List.set_cons_zero, List.set_cons_succ]
  refine WL.val (by kernel_rfl) (.pointer (some ⟨g, 4, none⟩)) (by go_simp) ?_
  simp only [Act.put, List.setIfInBounds_toArray, List.set_cons_zero, List.set_cons_succ]
  refine WL.val (by kernel_rfl) (.bool false) (by go_simp) ?_
  simp only [Act.put, List.setIfInBounds_toArray, List.set_cons_zero, List.set_cons_succ]
  refine WL.val (by kernel_rfl) (.bool true) (by go_simp) ?_
  simp only [Act.put, List.setIfInBounds_toArray, List.set_cons_zero, List.set_cons_succ]
  refine WL.nil ?_
  refine hK5 _ _ ?_
  refine wp_cond_true rfl ?_
  refine wp_seq_k fun K6 hK6 => ?_
  refine wp_region_list (WL.out ?_)
  refine WL.val (by kernel_rfl) (.int .i64 0) (by go_simp) ?_
  simp only [Act.put, List.setIfInBounds_toArray, List.set_cons_zero, List.set_cons_succ]
  refine WL.nil ?_
  refine hK6 _ _ ?_
  refine wp_ret ?_
  go_ret
  exact ⟨rfl, rfl⟩
theorem yieldsIf_bld {P : Program} {ops : Array Oper} {S : World → Prop} {op : Oper} {a : Act} (hw : Region.wanted op (yielded ops a.tmps) = true) (t : TypeId) (parts : Array (Nat × Operand)) (ho : op.op = .build t parts)
    (vs : Array (Nat × Value)) (hv : (parts.map fun (i, x) => (i, a.eval x)) = vs) (v : Value) (hr : ∀ w : World, (Next.value <$> Instr.build t vs).run P w = .ok (.value v) w) : YieldsIf P ops S op v a :=
  .inl ⟨hw, fun w _ => by unfold execOp; simp only [ho, hv]; exact hr w⟩
theorem run_bldF (s : ByteArray) (a : Option Addr) (n c : Nat) (k : Int) (w : World) : (Next.value <$> Instr.build 70 #[(0, .string s), (1, .slice a n c), (2, .int .i64 k)]).run Tryd.prog w = .ok (.value (.agg (fA ⟨s, .slice a n c, k⟩))) w := by kernel_rfl
theorem snoc_get {α : Type} {l : List α} {x y : α} {j : Nat} (h : (l ++ [x])[j]? = some y) : l[j]? = some y ∨ (j = l.length ∧ x = y) := by
  rcases Nat.lt_or_ge j l.length with hj | hj
  · rw [List.getElem?_append_left hj] at h; exact .inl h
  · rw [List.getElem?_append_right hj] at h
    rcases hq : j - l.length with _ | m
    · rw [hq] at h; simp at h; exact .inr ⟨by omega, h⟩
    · rw [hq] at h; simp at h
theorem news_more {B : Nat} {ct : List FC} {x : FC} (h : ∀ (j : Nat) (y : FC) (k : Nat), ct[j]? = some y → y.b.ownBlock = some k → B ≤ k) (hx : ∀ k, x.b.ownBlock = some k → B ≤ k) : ∀ (j : Nat) (y : FC) (k : Nat), (ct ++ [x])[j]? = some y → y.b.ownBlock = some k → B ≤ k := fun j y k hj hk => by
  rcases snoc_get hj with hj | ⟨_, rfl⟩
  · exact h j y k hj hk
  · exact hx k hk
theorem fcs_lt {w : World} {cs : List FC} {fs : List PF} (h : FcsAt w cs fs) {j : Nat} {y : FC} {k : Nat} (hj : cs[j]? = some y) (hk : y.b.ownBlock = some k) : k < w.heap.size := by
  have hl := (List.getElem?_eq_some_iff.1 hj).1
  rw [h.len] at hl
  exact (h.each j y _ hj (List.getElem?_eq_getElem hl)).2.2.lt k hk
theorem fcs_more {w wf : World} {ct : List FC} {fs : List PF} {t : Nat} {f : PF} {y : FC} {S : Nat → Prop} (h : FcsAt w ct (fs.take t)) (hf : fs[t]? = some f) (hy : FcAt w y f) (hap : ∀ (j : Nat) (z : FC) (k : Nat), ct[j]? = some z → z.b.ownBlock = some k → y.b.ownBlock ≠ some k) (hg : Grown w wf S) (hS : ∀ k, Typ w k 5 → ¬ S k) : FcsAt wf (ct ++ [y]) (fs.take (t + 1)) := by
  have ht := (List.getElem?_eq_some_iff.1 hf).1
  have hl := h.len
  rw [List.length_take, Nat.min_eq_left (by omega)] at hl
  have e : fs.take (t + 1) = fs.take t ++ [f] := by rw [List.take_add_one, hf]; rfl
  rw [e]
  refine ⟨by simp; have := h.len; simp at this; omega, fun i x g hx hgi => ?_, fun i j x z hx hz hne k hk hzk => ?_⟩
  · refine FcAt.grown ?_ hg hS
    rcases snoc_get hx with hx | ⟨e1, rfl⟩
    · have hi := (List.getElem?_eq_some_iff.1 hx).1
      rw [List.getElem?_append_left (by simp; omega)] at hgi
      exact h.each i x g hx hgi
    · rw [List.getElem?_append_right (by simp; omega)] at hgi
      rw [show i - (fs.take t).length = 0 by simp; omega] at hgi
      injection hgi with hgi
      subst hgi
      exact hy
  · rcases snoc_get hx with hx | ⟨e1, rfl⟩
    · rcases snoc_get hz with hz | ⟨e2, rfl⟩
      · exact h.apart i j x z hx hz hne k hk hzk
      · exact hap i x k hx hk hzk
    · rcases snoc_get hz with hz | ⟨e2, rfl⟩
      · exact hap j z k hz hzk hk
      · omega
theorem wp_appS {Q : Exit → Act → World → Prop} {o : Oper} {a : Act} {w : World} {K : Act → World → Prop} (s x : Operand)
    (ho : o.op = .call { callee := .builtin .append, args := #[s, x], argTypes := #[44, 44] }) (v vs : Value) (l m : List FC) (hm : ∀ x ∈ m, SlF x)
    (hs : a.eval s = v) (hx : a.eval x = vs) (hown : OwnF w v l) (hsrc : SrcF w vs m) (hb : l.length + m.length ≤ 1000000000000)
    (h : ∀ v' w', OwnF w' v' (l ++ m) → (Grown w w' fun k => v.ownBlock = some k) → Moved w v v' → K (a.put o.dst v') w') : o.wp Tryd.prog a w K Q := by
  obtain ⟨v', w', hr, h1, h2, h3⟩ := run_appS w o.type v vs l m hown hm hsrc hb
  unfold Oper.wp execOp
  simp only [ho, resolve, invoke, builtin, Sem.run_bind, Sem.run_pure, Result.andThen_ok, List.map_toArray, List.map_cons, List.map_nil, hs, hx, hr]
  exact h v' w' h1 h2 h3
set_option maxRecDepth 8000 in
set_option maxHeartbeats 2000000 in
theorem files_any (h p : Nat) (vf : Value) (cs : List FC) (D : DV) (w : World) (hH : Blk w h 77 #[ptr p]) (hD : DskAt w p vf cs D) (hL : cs.length ≤ 1000000) (hS : ∀ f ∈ D.fs, f.bs.length ≤ 70368744177664) :
    Calls Tryd.prog 28 #[ptr h] w fun e w' => ∃ v ct, e = .returned v ∧ OwnF w' v ct ∧ FcsAt w' ct D.fs ∧ NewF w.heap.size v ∧ (∀ (j : Nat) (y : FC) (k : Nat), ct[j]? = some y → y.b.ownBlock = some k → w.heap.size ≤ k) ∧ Below w.heap.size w w' := by
  obtain ⟨va, vc, rfl⟩ := hD.own.sl
  have HH := Keep.mk hH
  have HD := Keep.mk hD
  have HL := Keep.mk hL
  have HS := Keep.mk hS
  clear hH hD hL hS
  go_enter Tryd.func28, Tryd.ntmps28
  have c0 := HH.out.c 0 (by rfl : (#[ptr p] : Array Value)[0]? = some (ptr p))
  refine wp_seq_k fun K1 hK1 => ?_
  refine wp_region_list (WL.out ?_)
  refine WL.val (by kernel_rfl) (.slice none 0 0) (by go_simp) ?_
  simp only [Act.put, List.setIfInBounds_toArray, List.set_cons_zero, List.set_cons_succ]
  refine WL.nil ?_
  refine hK1 _ _ ?_
  refine wp_seq_k fun K2 hK2 => ?_
  refine wp_region_list (WL.out ?_)
  refine WL.bs (by kernel_rfl) 44 0 _ rfl #[] (by simp) _ _ (bsFE w) ?_
  have HN1 := Keep.mk (ownF_empty w)
  have B1 := Keep.mk (below_new w (.cells #[] 70))
  clear c0
  generalize w.alloc (.cells #[] 70) = w1 at *
  obtain ⟨g1, hg1⟩ : ∃ g, Keep (g = w.heap.size) := ⟨_, ⟨rfl⟩⟩
  rw [← hg1.out] at HN1 ⊢
  have N1 : Keep (NewF w.heap.size (.slice (some ⟨g1, 0, none⟩) 0 0)) := ⟨NewF.at (by rw [hg1.out]; exact Nat.le_refl _)⟩
  have c0 := (HH.out.below B1.out HH.out.lt).c 0 (by rfl : (#[ptr p] : Array Value)[0]? = some (ptr p))
  have p0 := (HD.out.blk.below B1.out HD.out.blk.lt).c 0 (by rfl : (stA (.slice va cs.length vc) D)[0]? = some (.slice va cs.length vc))
  simp only [Act.put, List.setIfInBounds_toArray, List.set_cons_zero, List.set_cons_succ]
  refine WL.val (by kernel_rfl) (.slice (some ⟨g1, 0, none⟩) 0 0) (by go_simp) ?_
  simp only [Act.put, List.setIfInBounds_toArray, List.set_cons_zero, List.set_cons_succ]
  refine WL.nil ?_
  refine hK2 _ _ ?_
  refine wp_seq_k fun K3 hK3 => ?_
  refine wp_seq_k fun K4 hK4 => ?_
  refine wp_region_list (WL.out ?_)
  refine WL.val (by kernel_rfl) (.pointer (some ⟨h, 0, none⟩)) (by go_simp) ?_
  simp only [Act.put, List.setIfInBounds_toArray, List.set_cons_zero, List.set_cons_succ]
  refine WL.val (by kernel_rfl) (.pointer (some ⟨h, 0, none⟩)) (by go_simp) ?_
  simp only [Act.put, List.setIfInBounds_toArray, List.set_cons_zero, List.set_cons_succ]
  refine WL.val (by kernel_rfl) (.pointer (some ⟨h, 0, none⟩)) (by go_simp) ?_
  simp only [Act.put, List.setIfInBounds_toArray, List.set_cons_zero, List.set_cons_succ]
  refine WL.val (by kernel_rfl) (.pointer (some ⟨p, 0, none⟩)) (by go_simp) ?_
  simp only [Act.put, List.setIfInBounds_toArray, List.set_cons_zero, List.set_cons_succ]
  refine WL.val (by kernel_rfl) (.pointer (some ⟨p, 0, none⟩)) (by go_simp) ?_
  simp only [Act.put, List.setIfInBounds_toArray, List.set_cons_zero, List.set_cons_succ]
  refine WL.val (by kernel_rfl) (.pointer (some ⟨p, 0, none⟩)) (by go_simp) ?_
  simp only [Act.put, List.setIfInBounds_toArray, List.set_cons_zero, List.set_cons_succ]
  refine WL.val (by kernel_rfl) (.slice va cs.length vc) (by go_simp) ?_
  simp only [Act.put, List.setIfInBounds_toArray, List.set_cons_zero, List.set_cons_succ]
  refine WL.val (by kernel_rfl) (.int .i64 (cs.length : Int)) (by go_simp) ?_
  simp only [Act.put, List.setIfInBounds_toArray, List.set_cons_zero, List.set_cons_succ]
  refine WL.val (by kernel_rfl) (.int .i64 0) (by go_simp) ?_
  simp only [Act.put, List.setIfInBounds_toArray, List.set_cons_zero, List.set_cons_succ]
  refine WL.nil ?_
  refine hK4 _ _ ?_
  refine wp_block ?_
  refine wp_loop (fun ac wr => ∃ (t : Nat) (f : Nat → Value) (xa : Option Addr) (xl xc : Nat) (ct : List FC), ac = { tmps := #[.pointer (some ⟨h, 0, none⟩), undef, .slice none 0 0, .slice xa xl xc, undef, f 5, .slice (some ⟨g1, 0, none⟩) 0 0, .pointer (some ⟨h, 0, none⟩), .pointer (some ⟨h, 0, none⟩), .pointer (some ⟨h, 0, none⟩), .pointer (some ⟨p, 0, none⟩), .pointer (some ⟨p, 0, none⟩), .pointer (some ⟨p, 0, none⟩), .slice va cs.length vc, .int .i64 (cs.length : Int), .int .i64 (t : Int), f 16, f 17, f 18, f 19, f 20, f 21, f 22, f 23, f 24, f 25, f 26, f 27, f 28, f 29, f 30, f 31, undef], defers := [] } ∧ t ≤ cs.length ∧ OwnF wr (.slice xa xl xc) ct ∧ FcsAt wr ct (D.fs.take t) ∧ (NewF w.heap.size (.slice xa xl xc) ∧ ∀ (j : Nat) (y : FC) (k : Nat), ct[j]? = some y → y.b.ownBlock = some k → w.heap.size ≤ k) ∧ Below w.heap.size w wr) (fun a _ => cs.length - (intOf (a.tmps.getD 15 undef)).toNat) ⟨0, fun i => [.pointer (some ⟨h, 0, none⟩), undef, .slice none 0 0, .slice (some ⟨g1, 0, none⟩) 0 0, undef, undef, .slice (some ⟨g1, 0, none⟩) 0 0, .pointer (some ⟨h, 0, none⟩), .pointer (some ⟨h, 0, none⟩), .pointer (some ⟨h, 0, none⟩), .pointer (some ⟨p, 0, none⟩), .pointer (some ⟨p, 0, none⟩), .pointer (some ⟨p, 0, none⟩), .slice va cs.length vc, .int .i64 (cs.length : Int), .int .i64 0, undef, undef, undef, undef, undef, undef, undef, undef, undef, undef, undef, undef, undef, undef, undef, undef, undef].getD i undef, some ⟨g1, 0, none⟩, 0, 0, [], rfl, Nat.zero_le _, HN1.out, FcsAt.nil _, ⟨N1.out, fun j y k h => by simp at h⟩, B1.out⟩ ?_
  clear c0 p0
  rintro ac wr ⟨t, f, xa, xl, xc, ct, rfl, ht, hO1, hO2, hO3, hO4⟩
  have JO := Keep.mk hO1
  have JF := Keep.mk hO2
  have JN := Keep.mk hO3
  have JB := Keep.mk hO4
  clear hO1 hO2 hO3 hO4
  by_cases hlt : t < cs.length
  · have hlt' : (t : Int) < (cs.length : Int) := by omega
    have hwt : IntKind.i64.wrap ((t : Int) + 1) = (t : Int) + 1 := by rw [IntKind.wrap_i64]; have := HL.out; omega
    obtain ⟨x, hx⟩ : ∃ x, cs[t]? = some x := ⟨cs[t], List.getElem?_eq_getElem hlt⟩
    obtain ⟨f_, hf_⟩ : ∃ f, D.fs[t]? = some f := ⟨D.fs[t]'(by have := HD.out.fcs.len; omega), List.getElem?_eq_getElem _⟩
    have JD : Keep (DskAt wr p (.slice va cs.length vc) cs D) := ⟨HD.out.below JB.out⟩
    obtain ⟨g, ha, hrg⟩ := JD.out.own.at hx
    subst ha
    have HRg := Keep.mk hrg
    have HXF : Keep (FcAt wr x f_) := ⟨JD.out.fcs.each t x f_ hx hf_⟩
    have HFf := Keep.mk hf_
    obtain ⟨xn, xb, xs⟩ := x
    obtain ⟨xba, xbc, hxb⟩ := row_form HXF.out.2.2.row
    change xb = _ at hxb
    subst hxb
    clear hrg hx hf_
    refine wp_seq_k fun K5 hK5 => ?_
    refine wp_region_list (WL.out ?_)
    refine WL.val (by kernel_rfl) (.bool true) (by go_simp) ?_
    simp only [Act.put, List.setIfInBounds_toArray, List.set_cons_zero, List.set_cons_succ]
    refine WL.nil ?_
    refine hK5 _ _ ?_
    refine wp_seq_k fun K6 hK6 => ?_
    refine wp_cond_true rfl ?_
    refine wp_skip ?_
    refine hK6 _ _ ?_
    refine wp_seq_k fun K7 hK7 => ?_
    refine wp_block ?_
    refine wp_seq_k fun K8 hK8 => ?_
    refine wp_region_list (WL.out ?_)
    refine WL.val (by kernel_rfl) (.pointer (some ⟨g, t * 3, none⟩)) (by go_simp) ?_
    simp only [Act.put, List.setIfInBounds_toArray, List.set_cons_zero, List.set_cons_succ]
    refine WL.mid (by kernel_rfl) 70 (.tmp 17) rfl g (t * 3) rfl (fA (⟨xn, .slice xba f_.bs.length xbc, xs⟩ : FC)).toList _ HRg.out Tryd.underlying70 rfl (Tryd.sizeFL (⟨xn, .slice xba f_.bs.length xbc, xs⟩ : FC)) ?_
    rw [fA_back]
    simp only [Act.put, List.setIfInBounds_toArray, List.set_cons_zero, List.set_cons_succ]
    refine WL.new (by kernel_rfl) 70 rfl _ Tryd.newF ?_
    have HN := Keep.mk (Blk.new wr 70 (fA zeroF))
    have BN := Keep.mk (below_new wr (.cells (fA zeroF) 70))
    generalize wr.alloc (.cells (fA zeroF) 70) = wa at *
    obtain ⟨g7, hg7⟩ : ∃ g, Keep (g = wr.heap.size) := ⟨_, ⟨rfl⟩⟩
    rw [← hg7.out] at HN ⊢
    simp only [Act.put, List.setIfInBounds_toArray, List.set_cons_zero, List.set_cons_succ]
    refine WL.storeR (by kernel_rfl) 70 (.tmp 5) (.tmp 18) rfl g7 (fA (⟨xn, .slice xba f_.bs.length xbc, xs⟩ : FC)) rfl rfl 70 (fA zeroF) HN.out (Tryd.sizeFB _) rfl (SlF.one ⟨_, _, _, rfl⟩) ?_
    have H7 := Keep.mk (HN.out.setRow (fA (⟨xn, .slice xba f_.bs.length xbc, xs⟩ : FC)))
    have B7 := Keep.mk (below_setRow BN.out (b := g7) (by rw [hg7.out]; exact Nat.le_refl _) (fA (⟨xn, .slice xba f_.bs.length xbc, xs⟩ : FC)))
    have L7 : Keep (wr.heap.size ≤ g7) := ⟨by rw [hg7.out]; exact Nat.le_refl _⟩
    generalize wa.setRow g7 (fA (⟨xn, .slice xba f_.bs.length xbc, xs⟩ : FC)) = wb at *
    have HXb : Keep (FcAt wb (⟨xn, .slice xba f_.bs.length xbc, xs⟩ : FC) f_) := ⟨HXF.out.grown (Grown.below (S := fun _ => False) B7.out) fun _ _ h => h⟩
    have JBb : Keep (Below w.heap.size w wb) := ⟨JB.out.trans (B7.out.mono JB.out.size)⟩
    have LO : Keep (∀ k, (Value.slice xa xl xc).ownBlock = some k → k < g7) := ⟨fun k hk => by have := JO.out.lt k hk; have := L7.out; omega⟩
    have JOb := Keep.mk (JO.out.below B7.out)
    have JFb : Keep (FcsAt wb ct (D.fs.take t)) := ⟨JF.out.grown (Grown.below (S := fun _ => False) B7.out) fun _ _ h => h⟩
    clear HN BN hg7 HRg JB B7 HXF JO JF JD
    simp only [Act.put]
    refine WL.nil ?_
    refine hK8 _ _ ?_
    refine wp_region_held_drew (S := fun wx => Blk wx g7 70 (fA (⟨xn, .slice xba f_.bs.length xbc, xs⟩ : FC))) (by kernel_rfl) (H7.out.drew) (fun hHeld => ?_)
    refine wpAnyH_take (i := 0) (oi := ⟨some 19, Op.move (Operand.tmp 3), 44, _, _, none⟩) (v := .slice xa xl xc) rfl (by kernel_rfl) (by kernel_rfl) (by kernel_rfl) (fun _ _ _ h => h) (Or.inl ⟨by rfl, fun w hS => by have s0 := hS.c 0 (by rfl : (fA (⟨xn, .slice xba f_.bs.length xbc, xs⟩ : FC))[0]? = some (.string xn)); have s1 := hS.c 1 (by rfl : (fA (⟨xn, .slice xba f_.bs.length xbc, xs⟩ : FC))[1]? = some (.slice xba f_.bs.length xbc)); have s2 := hS.c 2 (by rfl : (fA (⟨xn, .slice xba f_.bs.length xbc, xs⟩ : FC))[2]? = some (.int .i64 xs)); go_simp⟩) hHeld ?_
    simp only [Act.put, List.setIfInBounds_toArray, List.set_cons_zero, List.set_cons_succ]
    refine wpAnyH_take (i := 1) (oi := ⟨some 20, Op.fieldAddr 70 (Operand.tmp 5) 0, 0, _, _, none⟩) (v := .pointer (some ⟨g7, 0, none⟩)) rfl (by kernel_rfl) (by kernel_rfl) (by kernel_rfl) (fun _ _ _ h => h) (Or.inl ⟨by rfl, fun w hS => by have s0 := hS.c 0 (by rfl : (fA (⟨xn, .slice xba f_.bs.length xbc, xs⟩ : FC))[0]? = some (.string xn)); have s1 := hS.c 1 (by rfl : (fA (⟨xn, .slice xba f_.bs.length xbc, xs⟩ : FC))[1]? = some (.slice xba f_.bs.length xbc)); have s2 := hS.c 2 (by rfl : (fA (⟨xn, .slice xba f_.bs.length xbc, xs⟩ : FC))[2]? = some (.int .i64 xs)); go_simp⟩) hHeld ?_
    simp only [Act.put, List.setIfInBounds_toArray, List.set_cons_zero, List.set_cons_succ]
    refine wpAnyH_take (i := 2) (oi := ⟨some 21, Op.load 9 (Operand.tmp 20), 9, _, _, none⟩) (v := .string xn) rfl (by kernel_rfl) (by kernel_rfl) (by kernel_rfl) (fun _ _ _ h => h) (Or.inl ⟨by rfl, fun w hS => by have s0 := hS.c 0 (by rfl : (fA (⟨xn, .slice xba f_.bs.length xbc, xs⟩ : FC))[0]? = some (.string xn)); have s1 := hS.c 1 (by rfl : (fA (⟨xn, .slice xba f_.bs.length xbc, xs⟩ : FC))[1]? = some (.slice xba f_.bs.length xbc)); have s2 := hS.c 2 (by rfl : (fA (⟨xn, .slice xba f_.bs.length xbc, xs⟩ : FC))[2]? = some (.int .i64 xs)); go_simp⟩) hHeld ?_
    simp only [Act.put, List.setIfInBounds_toArray, List.set_cons_zero, List.set_cons_succ]
    refine wpAnyH_take (i := 4) (oi := ⟨some 23, Op.fieldAddr 70 (Operand.tmp 5) 1, 0, _, _, none⟩) (v := .pointer (some ⟨g7, 1, none⟩)) rfl (by kernel_rfl) (by kernel_rfl) (by kernel_rfl) (fun _ _ _ h => h) (Or.inl ⟨by rfl, fun w hS => by have s0 := hS.c 0 (by rfl : (fA (⟨xn, .slice xba f_.bs.length xbc, xs⟩ : FC))[0]? = some (.string xn)); have s1 := hS.c 1 (by rfl : (fA (⟨xn, .slice xba f_.bs.length xbc, xs⟩ : FC))[1]? = some (.slice xba f_.bs.length xbc)); have s2 := hS.c 2 (by rfl : (fA (⟨xn, .slice xba f_.bs.length xbc, xs⟩ : FC))[2]? = some (.int .i64 xs)); go_simp⟩) hHeld ?_
    simp only [Act.put, List.setIfInBounds_toArray, List.set_cons_zero, List.set_cons_succ]
    refine wpAnyH_take (i := 5) (oi := ⟨some 24, Op.load 37 (Operand.tmp 23), 37, _, _, none⟩) (v := .slice xba f_.bs.length xbc) rfl (by kernel_rfl) (by kernel_rfl) (by kernel_rfl) (fun _ _ _ h => h) (Or.inl ⟨by rfl, fun w hS => by have s0 := hS.c 0 (by rfl : (fA (⟨xn, .slice xba f_.bs.length xbc, xs⟩ : FC))[0]? = some (.string xn)); have s1 := hS.c 1 (by rfl : (fA (⟨xn, .slice xba f_.bs.length xbc, xs⟩ : FC))[1]? = some (.slice xba f_.bs.length xbc)); have s2 := hS.c 2 (by rfl : (fA (⟨xn, .slice xba f_.bs.length xbc, xs⟩ : FC))[2]? = some (.int .i64 xs)); go_simp⟩) hHeld ?_
    simp only [Act.put, List.setIfInBounds_toArray, List.set_cons_zero, List.set_cons_succ]
    refine wpAnyH_take (i := 7) (oi := ⟨some 26, Op.fieldAddr 70 (Operand.tmp 5) 2, 0, _, _, none⟩) (v := .pointer (some ⟨g7, 2, none⟩)) rfl (by kernel_rfl) (by kernel_rfl) (by kernel_rfl) (fun _ _ _ h => h) (Or.inl ⟨by rfl, fun w hS => by have s0 := hS.c 0 (by rfl : (fA (⟨xn, .slice xba f_.bs.length xbc, xs⟩ : FC))[0]? = some (.string xn)); have s1 := hS.c 1 (by rfl : (fA (⟨xn, .slice xba f_.bs.length xbc, xs⟩ : FC))[1]? = some (.slice xba f_.bs.length xbc)); have s2 := hS.c 2 (by rfl : (fA (⟨xn, .slice xba f_.bs.length xbc, xs⟩ : FC))[2]? = some (.int .i64 xs)); go_simp⟩) hHeld ?_
    simp only [Act.put, List.setIfInBounds_toArray, List.set_cons_zero, List.set_cons_succ]
    refine wpAnyH_take (i := 8) (oi := ⟨some 27, Op.load 3 (Operand.tmp 26), 3, _, _, none⟩) (v := .int .i64 xs) rfl (by kernel_rfl) (by kernel_rfl) (by kernel_rfl) (fun _ _ _ h => h) (Or.inl ⟨by rfl, fun w hS => by have s0 := hS.c 0 (by rfl : (fA (⟨xn, .slice xba f_.bs.length xbc, xs⟩ : FC))[0]? = some (.string xn)); have s1 := hS.c 1 (by rfl : (fA (⟨xn, .slice xba f_.bs.length xbc, xs⟩ : FC))[1]? = some (.slice xba f_.bs.length xbc)); have s2 := hS.c 2 (by rfl : (fA (⟨xn, .slice xba f_.bs.length xbc, xs⟩ : FC))[2]? = some (.int .i64 xs)); go_simp⟩) hHeld ?_
    simp only [Act.put, List.setIfInBounds_toArray, List.set_cons_zero, List.set_cons_succ]
    refine wpAnyH_ready (rs := [3]) (by kernel_rfl) (by simp) ?_
    refine AllReadyH.cons (o := ⟨some 22, Op.buildSlice 37 0 #[], 37, _, _, none⟩) rfl (fun K hK => ?_) AllReadyH.nil
    rw [if_pos (by rfl)]
    refine wp_bs 37 0 _ rfl #[] (by simp) _ _ (bsBE wb.drew) ?_
    have hbx : Below wb.heap.size wb (wb.drew.alloc (.cells #[] 5)) := (Below.refl wb.heap.size wb).drew.trans (below_new wb.drew _)
    have HE : Keep (Own (wb.drew.alloc (.cells #[] 5)) (.slice (some ⟨wb.drew.heap.size, 0, none⟩) 0 0) []) := ⟨own_empty _ _ (Blk.new wb.drew 5 #[])⟩
    have LE : Keep (wb.heap.size ≤ wb.drew.heap.size) := ⟨Nat.le_refl _⟩
    have BC := Keep.mk hbx
    clear hbx
    generalize wb.drew.alloc (.cells #[] 5) = wc at *
    generalize wb.drew.heap.size = ge at *
    refine hK _ _ (H7.out.below BC.out H7.out.lt) fun hH1 => ?_
    clear hK
    simp only [Act.put, List.setIfInBounds_toArray, List.set_cons_zero, List.set_cons_succ]
    refine wpAnyH_ready (rs := [6]) (by kernel_rfl) (by simp) ?_
    refine AllReadyH.cons (o := ⟨some 25, Op.call { callee := Callee.builtin Builtin.append, args := #[Operand.tmp 22, Operand.tmp 24], argTypes := #[37, 37] }, 37, _, _, none⟩) rfl (fun K hK => ?_) AllReadyH.nil
    rw [if_pos (by rfl)]
    refine wp_app (.tmp 22) (.tmp 24) rfl (.slice (some ⟨ge, 0, none⟩) 0 0) (.slice xba f_.bs.length xbc) [] f_.bs rfl rfl HE.out (HXb.out.2.2.row.below BC.out) (by have := HS.out f_ (List.mem_of_getElem? HFf.out); simp; omega) fun v9 wd hp => ?_
    have BD : Keep (Below wb.heap.size wb wd) := ⟨BC.out.trans (hp.grown.to_below (B := wb.heap.size) (fun k hk e => by have e : ge = k := Option.some.inj e; have := LE.out; omega) BC.out.size)⟩
    have HV9 : Keep (Own wd v9 f_.bs) := ⟨by have h := hp.1; rw [List.nil_append] at h; exact h⟩
    have N9 : Keep (∀ k, v9.ownBlock = some k → wb.heap.size ≤ k) := ⟨own_new hp BC.out.size fun k hk => by have e : ge = k := Option.some.inj hk; have := LE.out; omega⟩
    clear hp HE
    obtain ⟨a9, n9, k9, e9⟩ := HV9.out.sl
    subst e9
    refine hK _ _ (H7.out.below BD.out H7.out.lt) fun hH2 => ?_
    clear hK
    simp only [Act.put, List.setIfInBounds_toArray, List.set_cons_zero, List.set_cons_succ]
    refine wpAnyH_take (i := 9) (oi := ⟨some 28, Op.build 70 #[(0, Operand.tmp 21), (1, Operand.tmp 25), (2, Operand.tmp 27)], 70, _, _, none⟩) (v := .agg (fA (⟨xn, .slice a9 n9 k9, xs⟩ : FC))) rfl (by kernel_rfl) (by kernel_rfl) (by kernel_rfl) (fun _ _ _ h => h) (yieldsIf_bld (by rfl) 70 _ rfl #[(0, .string xn), (1, .slice a9 n9 k9), (2, .int .i64 xs)] (by simp [Act.eval]) (.agg (fA (⟨xn, .slice a9 n9 k9, xs⟩ : FC))) (fun w => run_bldF _ _ _ _ _ w)) hH2 ?_
    simp only [Act.put, List.setIfInBounds_toArray, List.set_cons_zero, List.set_cons_succ]
    refine wpAnyH_ready (rs := [10]) (by kernel_rfl) (by simp) ?_
    refine AllReadyH.cons (o := ⟨some 29, Op.buildSlice 44 1 #[(0, Operand.tmp 28)], 44, _, _, none⟩) rfl (fun K hK => ?_) AllReadyH.nil
    rw [if_pos (by rfl)]
    refine wp_bs 44 1 _ rfl #[(0, .agg (fA (⟨xn, .slice a9 n9 k9, xs⟩ : FC)))] (by simp [Act.eval]) _ _ (bsF xn a9 n9 k9 xs wd) ?_
    have hbx := below_new wd (.cells (fA (⟨xn, .slice a9 n9 k9, xs⟩ : FC)) 70)
    have HB := Keep.mk (Blk.new wd 70 (fA (⟨xn, .slice a9 n9 k9, xs⟩ : FC)))
    have HV10 : Keep (Own (wd.alloc (.cells (fA (⟨xn, .slice a9 n9 k9, xs⟩ : FC)) 70)) (.slice a9 n9 k9) f_.bs) := ⟨HV9.out.grown (Grown.below (S := fun _ => False) hbx) fun _ _ h => h⟩
    have BE : Keep (Below wb.heap.size wb (wd.alloc (.cells (fA (⟨xn, .slice a9 n9 k9, xs⟩ : FC)) 70))) := ⟨BD.out.trans (hbx.mono BD.out.size)⟩
    clear hbx HV9
    generalize wd.alloc (.cells (fA (⟨xn, .slice a9 n9 k9, xs⟩ : FC)) 70) = we at *
    obtain ⟨gz, hgz⟩ : ∃ q, Keep (q = wd.heap.size) := ⟨_, ⟨rfl⟩⟩
    rw [← hgz.out] at HB ⊢
    refine hK _ _ (H7.out.below BE.out H7.out.lt) fun hH3 => ?_
    clear hK
    simp only [Act.put, List.setIfInBounds_toArray, List.set_cons_zero, List.set_cons_succ]
    refine wpAnyH_ready (rs := [11]) (by kernel_rfl) (by simp) ?_
    refine AllReadyH.cons (o := ⟨some 30, Op.call { callee := Callee.builtin Builtin.append, args := #[Operand.tmp 19, Operand.tmp 29], argTypes := #[44, 44] }, 44, _, _, none⟩) rfl (fun K hK => ?_) AllReadyH.nil
    rw [if_pos (by rfl)]
    refine wp_appS (.tmp 19) (.tmp 29) rfl (.slice xa xl xc) (.slice (some ⟨gz, 0, none⟩) 1 1) ct [(⟨xn, .slice a9 n9 k9, xs⟩ : FC)] (fun x hx => by simp at hx; subst hx; exact ⟨_, _, _, rfl⟩) rfl rfl (JOb.out.below BE.out) (srcF_one HB.out) (by have := HL.out; have h := JFb.out.len; simp at h; simp; omega) fun v11 wf ho hg hm => ?_
    have HO11 := Keep.mk ho
    have N11 : Keep (NewF w.heap.size v11) := ⟨NewF.moved JN.out.1 (Nat.le_trans JBb.out.size BE.out.size) hm⟩
    have HF11 : Keep (FcsAt wf (ct ++ [(⟨xn, .slice a9 n9 k9, xs⟩ : FC)]) (D.fs.take (t + 1))) := ⟨fcs_more (JFb.out.grown (Grown.below (S := fun _ => False) BE.out) fun _ _ h => h) HFf.out ⟨HXb.out.1, HXb.out.2.1, HV10.out⟩ (fun j y k hj hk e => by have h1 := fcs_lt JFb.out hj hk; have h2 := N9.out k e; omega) hg (fun k hk e => by have := ((JOb.out.below BE.out).typ e).one hk; revert this; decide)⟩
    have B11 : Keep (Below w.heap.size w wf) := ⟨(JBb.out.trans (BE.out.mono JBb.out.size)).trans (hg.to_below (B := w.heap.size) (fun k hk e => by have := JN.out.1 k e; omega) (Nat.le_trans JBb.out.size BE.out.size))⟩
    have M11 : Keep (∀ (j : Nat) (y : FC) (k : Nat), (ct ++ [(⟨xn, .slice a9 n9 k9, xs⟩ : FC)])[j]? = some y → y.b.ownBlock = some k → w.heap.size ≤ k) := ⟨news_more JN.out.2 fun k hk => by have := N9.out k hk; have := JBb.out.size; omega⟩
    have HG : Keep (Blk wf g7 70 (fA (⟨xn, .slice xba f_.bs.length xbc, xs⟩ : FC))) := ⟨hg.blk (H7.out.below BE.out H7.out.lt) fun e => by have := LO.out g7 e; omega⟩
    clear ho hg hm
    obtain ⟨a11, k11, e11⟩ := HO11.out.sl
    subst e11
    obtain ⟨n11, hn11⟩ : ∃ q, Keep (q = (ct ++ [(⟨xn, .slice a9 n9 k9, xs⟩ : FC)]).length) := ⟨_, ⟨rfl⟩⟩
    rw [← hn11.out] at HO11 N11 ⊢
    refine hK _ _ HG.out fun hH4 => ?_
    clear hK
    simp only [Act.put, List.setIfInBounds_toArray, List.set_cons_zero, List.set_cons_succ]
    refine wpAnyH_take (i := 12) (oi := ⟨some 3, Op.assign (Operand.tmp 30), 44, _, _, none⟩) (v := .slice a11 n11 k11) rfl (by kernel_rfl) (by kernel_rfl) (by kernel_rfl) (fun _ _ _ h => h) (Or.inl ⟨by rfl, fun w hS => by have s0 := hS.c 0 (by rfl : (fA (⟨xn, .slice xba f_.bs.length xbc, xs⟩ : FC))[0]? = some (.string xn)); have s1 := hS.c 1 (by rfl : (fA (⟨xn, .slice xba f_.bs.length xbc, xs⟩ : FC))[1]? = some (.slice xba f_.bs.length xbc)); have s2 := hS.c 2 (by rfl : (fA (⟨xn, .slice xba f_.bs.length xbc, xs⟩ : FC))[2]? = some (.int .i64 xs)); go_simp⟩) hH4 ?_
    simp only [Act.put, List.setIfInBounds_toArray, List.set_cons_zero, List.set_cons_succ]
    refine wpAnyH_done (by kernel_rfl) ?_ _
    refine hK7 _ _ ?_
    refine wp_region_list (WL.out ?_)
    refine WL.val (by kernel_rfl) (.int .i64 ((t : Int) + 1)) (by go_simp) ?_
    simp only [Act.put, List.setIfInBounds_toArray, List.set_cons_zero, List.set_cons_succ]
    refine WL.val (by kernel_rfl) (.int .i64 ((t : Int) + 1)) (by go_simp) ?_
    simp only [Act.put, List.setIfInBounds_toArray, List.set_cons_zero, List.set_cons_succ]
    refine WL.nil ?_
    refine ⟨⟨t + 1, fun i => [.pointer (some ⟨h, 0, none⟩), undef, .slice none 0 0, .slice a11 n11 k11, undef, .pointer (some ⟨g7, 0, none⟩), .slice (some ⟨g1, 0, none⟩) 0 0, .pointer (some ⟨h, 0, none⟩), .pointer (some ⟨h, 0, none⟩), .pointer (some ⟨h, 0, none⟩), .pointer (some ⟨p, 0, none⟩), .pointer (some ⟨p, 0, none⟩), .pointer (some ⟨p, 0, none⟩), .slice (some ⟨g, 0, none⟩) cs.length vc, .int .i64 (cs.length : Int), .int .i64 ((t : Int) + 1), .bool true, .pointer (some ⟨g, t * 3, none⟩), .agg (fA (⟨xn, .slice xba f_.bs.length xbc, xs⟩ : FC)), .slice xa xl xc, .pointer (some ⟨g7, 0, none⟩), .string xn, .slice (some ⟨ge, 0, none⟩) 0 0, .pointer (some ⟨g7, 1, none⟩), .slice xba f_.bs.length xbc, .slice a9 n9 k9, .pointer (some ⟨g7, 2, none⟩), .int .i64 xs, .agg (fA (⟨xn, .slice a9 n9 k9, xs⟩ : FC)), .slice (some ⟨gz, 0, none⟩) 1 1, .slice a11 n11 k11, .int .i64 ((t : Int) + 1), undef].getD i undef, a11, n11, k11, ct ++ [⟨xn, .slice a9 n9 k9, xs⟩], rfl, by omega, HO11.out, HF11.out, ⟨N11.out, M11.out⟩, B11.out⟩, ?_⟩
    simp only [intOf]; show cs.length - ((t : Int) + 1).toNat < cs.length - ((t : Int)).toNat; omega
  · have hlt' : ¬ (t : Int) < (cs.length : Int) := by omega
    have hte : Keep (t = cs.length) := ⟨by omega⟩
    refine wp_seq_k fun K9 hK9 => ?_
    refine wp_region_list (WL.out ?_)
    refine WL.val (by kernel_rfl) (.bool false) (by go_simp) ?_
    simp only [Act.put, List.setIfInBounds_toArray, List.set_cons_zero, List.set_cons_succ]
    refine WL.nil ?_
    refine hK9 _ _ ?_
    refine wp_seq_k fun K10 hK10 => ?_
    refine wp_cond_false rfl ?_
    refine wp_exit ?_
    refine hK3 _ _ ?_
    refine wp_seq_k fun K11 hK11 => ?_
    refine wp_region_list (WL.out ?_)
    refine WL.val (by kernel_rfl) (.slice xa xl xc) (by go_simp) ?_
    simp only [Act.put, List.setIfInBounds_toArray, List.set_cons_zero, List.set_cons_succ]
    refine WL.val (by kernel_rfl) (.slice xa xl xc) (by go_simp) ?_
    simp only [Act.put, List.setIfInBounds_toArray, List.set_cons_zero, List.set_cons_succ]
    refine WL.nil ?_
    refine hK11 _ _ ?_
    refine wp_ret ?_
    go_ret
    refine ⟨_, ct, rfl, JO.out, ?_, JN.out.1, JN.out.2, JB.out⟩
    have h := JF.out
    rw [List.take_of_length_le (by have := HD.out.fcs.len; have := hte.out; omega)] at h
    exact h
end Go.Proofs.YtennogmeeefopaaDoor
namespace Go.Proofs.YtennogmeeefopaaDoor
open Go.RowKit
set_option linter.unusedSimpArgs false
set_option linter.unusedVariables false

theorem nextW_like {c d : Nat → Int} {t : Nat} (ht : 16 ≤ t) (h : ∀ i, i < t → c i = d i) : nextW c t = nextW d t := by
  unfold nextW; rw [h (t - 16) (by omega), h (t - 15) (by omega), h (t - 7) (by omega), h (t - 2) (by omega)]
theorem be32_like {c d : Nat → Int} {t : Nat} (ht : t < 16) (h : ∀ i, i < 64 → c i = d i) : be32 c t = be32 d t := by
  unfold be32; rw [h (4 * t) (by omega), h (4 * t + 1) (by omega), h (4 * t + 2) (by omega), h (4 * t + 3) (by omega)]
def rL (r : R8) : List Int := [r.a, r.b, r.c, r.d, r.e, r.f, r.g, r.h]
def rOf (l : List Int) : R8 := r8 (fun i => l.getD i 0)
theorem rOf_L (r : R8) : rOf (rL r) = r := rfl
/-- A piece reckoned by its tables. -/
structure STab (S B W : List Int) (R : List (List Int)) (O : List Int) : Prop where
  w : ∀ t : Fin 64, (if t.val < 16 then be32 (fun i => B.getD i 0) t.val else nextW (fun i => W.getD i 0) t.val) = W.getD t.val 0
  r : ∀ t : Fin 64, rL (stepF (roundsF t.val) (W.getD t.val 0) (rOf (R.getD t.val []))) = R.getD (t.val + 1) []
  r0 : rL (rOf S) = R.getD 0 []
  o : ∀ i : Fin 8, outF (fun i => S.getD i 0) (rOf (R.getD 64 [])) i.val = O.getD i.val 0
theorem STab.sch {S B W : List Int} {R : List (List Int)} {O : List Int} (h : STab S B W R O) (p : Nat → Int) (hp : ∀ i, i < 64 → p i = B.getD i 0) (t : Nat) (ht : t ≤ 64) : ∀ i, i < t → sched p t i = W.getD i 0 := by
  induction t with
  | zero => intro i h; omega
  | succ t ih =>
    intro i hi
    simp only [sched, upd]
    by_cases e : i = t
    · subst e
      rw [if_pos rfl, ← h.w ⟨i, by omega⟩]
      by_cases h16 : i < 16
      · rw [if_pos h16, if_pos h16]; exact be32_like h16 hp
      · rw [if_neg h16, if_neg h16]; exact nextW_like (by omega) (fun j hj => ih (by omega) j hj)
    · rw [if_neg e]; exact ih (by omega) i (by omega)
theorem r8_like {c d : Nat → Int} (h : ∀ i, i < 8 → c i = d i) : r8 c = r8 d := by
  unfold r8; rw [h 0 (by omega), h 1 (by omega), h 2 (by omega), h 3 (by omega), h 4 (by omega), h 5 (by omega), h 6 (by omega), h 7 (by omega)]
theorem outF_like {c d : Nat → Int} (h : ∀ i, i < 8 → c i = d i) (r : R8) : outF c r = outF d r := by
  funext i; unfold outF; rw [h 0 (by omega), h 1 (by omega), h 2 (by omega), h 3 (by omega), h 4 (by omega), h 5 (by omega), h 6 (by omega), h 7 (by omega)]
theorem STab.run {S B W : List Int} {R : List (List Int)} {O : List Int} (h : STab S B W R O) (s : Nat → Int) (hs : ∀ i, i < 8 → s i = S.getD i 0) (ww : Nat → Int) (hw : ∀ i, i < 64 → ww i = W.getD i 0) (t : Nat) (ht : t ≤ 64) : rL (runF roundsF ww (r8 s) t) = R.getD t [] := by
  induction t with
  | zero => rw [← h.r0]; show rL (r8 s) = rL (rOf S); rw [show r8 s = rOf S from r8_like hs]
  | succ t ih =>
    simp only [runF]
    rw [← h.r ⟨t, by omega⟩, ← ih (by omega), rOf_L, hw t (by omega)]
theorem STab.mix {S B W : List Int} {R : List (List Int)} {O : List Int} (h : STab S B W R O) (s : Nat → Int) (hs : ∀ i, i < 8 → s i = S.getD i 0) (p : Nat → Int) (hp : ∀ i, i < 64 → p i = B.getD i 0) : ∀ i, i < 8 → mixF s p i = O.getD i 0 := by
  intro i hi
  have h1 := h.run s hs (sched p 64) (h.sch p hp 64 (Nat.le_refl _)) 64 (Nat.le_refl _)
  unfold mixF
  rw [← rOf_L (runF roundsF (sched p 64) (r8 s) 64), h1, outF_like hs]
  exact h.o ⟨i, hi⟩
/-- The hash of at most 55 bytes. -/
def piece0 (C : List Int) : Nat → Int := putN (putN (fun _ => 0) 0 C.length fun i => C.getD i 0) C.length (64 - C.length) (endX C.length)
theorem sha_one (C : List Int) (hC : C.length ≤ 55) : shaP C = layUp (mixF beginF (piece0 C)) 8 := by
  have h2 : absorbL dg0 C = ⟨beginF, putN (fun _ => 0) 0 C.length (fun i => C.getD i 0), C.length⟩ := by
    rw [← absorbN_all, absorb_chunk dg0 _ C.length (by show 0 % 64 + C.length ≤ 64; omega)]
    rw [if_neg (by show ¬ 0 % 64 + C.length = 64; omega)]
    simp [dg0]
  have hz : zerosF C.length + 9 = 64 - C.length := by unfold zerosF; omega
  have hm : C.length % 64 = C.length := by omega
  unfold shaP sumF
  rw [h2]
  dsimp only
  rw [hz, absorb_chunk _ _ (64 - C.length) (by dsimp only; omega)]
  dsimp only
  rw [hm, if_pos (by omega)]
  rfl
theorem layUp_like {c d : Nat → Int} (h : ∀ i, i < 8 → c i = d i) (t : Nat) (ht : t ≤ 8) : layUp c t = layUp d t := by
  induction t with
  | zero => rfl
  | succ t ih => simp only [layUp]; rw [ih (by omega), h t (by omega)]
def abS : List Int := [1779033703, 3144134277, 1013904242, 2773480762, 1359893119, 2600822924, 528734635, 1541459225]
def abB : List Int := [97, 98, 128, 0, 0, 0, 0, 0, 0, 0, 0, 0, 0, 0, 0, 0, 0, 0, 0, 0, 0, 0, 0, 0, 0, 0, 0, 0, 0, 0, 0, 0, 0, 0, 0, 0, 0, 0, 0, 0, 0, 0, 0, 0, 0, 0, 0, 0, 0, 0, 0, 0, 0, 0, 0, 0, 0, 0, 0, 0, 0, 0, 0, 16]
def abW : List Int := [1633845248, 0, 0, 0, 0, 0, 0, 0, 0, 0, 0, 0, 0, 0, 0, 16, 1633845248, 655360, 270033981, 1073742468, 1050487830, 16951296, 864452582, 1650638859, 4027399724, 1211410954, 2028988364, 4277374028, 268710035, 3944143914, 549890843, 1386658034, 2860467165, 1704602302, 1491927166, 12639368, 4093457531, 3985429324, 1833301693, 155258341, 3528335737, 3062717792, 3012079207, 539425273, 1076043381, 2496143508, 1471727768, 3093250499, 3643758778, 432964173, 3888910579, 1993602963, 3286075862, 3578358685, 600467822, 3702232564, 3868419969, 1230845418, 1369500673, 1165505681, 3029804626, 3722238860, 3963502664, 1311518612]
def abR : List (List Int) := [[1779033703, 3144134277, 1013904242, 2773480762, 1359893119, 2600822924, 528734635, 1541459225],
  [1567295565, 1779033703, 3144134277, 1013904242, 4197081762, 1359893119, 2600822924, 528734635],
  [3771592872, 1567295565, 1779033703, 3144134277, 3904903575, 4197081762, 1359893119, 2600822924],
  [1244149001, 3771592872, 1567295565, 1779033703, 311372123, 3904903575, 4197081762, 1359893119],
  [3332301780, 1244149001, 3771592872, 1567295565, 2385191175, 311372123, 3904903575, 4197081762],
  [3636599127, 3332301780, 1244149001, 3771592872, 521228548, 2385191175, 311372123, 3904903575],
  [151833283, 3636599127, 3332301780, 1244149001, 3932515056, 521228548, 2385191175, 311372123],
  [3520778562, 151833283, 3636599127, 3332301780, 2885927810, 3932515056, 521228548, 2385191175],
  [2655857540, 3520778562, 151833283, 3636599127, 905708628, 2885927810, 3932515056, 521228548],
  [4057219706, 2655857540, 3520778562, 151833283, 3794789662, 905708628, 2885927810, 3932515056],
  [3376610011, 4057219706, 2655857540, 3520778562, 29887585, 3794789662, 905708628, 2885927810],
  [4181491042, 3376610011, 4057219706, 2655857540, 3261941830, 29887585, 3794789662, 905708628],
  [1858790193, 4181491042, 3376610011, 4057219706, 1863726812, 3261941830, 29887585, 3794789662],
  [199566772, 1858790193, 4181491042, 3376610011, 2864275867, 1863726812, 3261941830, 29887585],
  [371626581, 199566772, 1858790193, 4181491042, 3081593237, 2864275867, 1863726812, 3261941830],
  [1479292645, 371626581, 199566772, 1858790193, 4112109337, 3081593237, 2864275867, 1863726812],
  [1686594463, 1479292645, 371626581, 199566772, 1731442211, 4112109337, 3081593237, 2864275867],
  [3808100401, 1686594463, 1479292645, 371626581, 3261428162, 1731442211, 4112109337, 3081593237],
  [377016914, 3808100401, 1686594463, 1479292645, 918499731, 3261428162, 1731442211, 4112109337],
  [3565255831, 377016914, 3808100401, 1686594463, 3513426526, 918499731, 3261428162, 1731442211],
  [1319397705, 3565255831, 377016914, 3808100401, 3351631961, 3513426526, 918499731, 3261428162],
  [2383999480, 1319397705, 3565255831, 377016914, 2452434827, 3351631961, 3513426526, 918499731],
  [2905686982, 2383999480, 1319397705, 3565255831, 631500222, 2452434827, 3351631961, 3513426526],
  [3243406427, 2905686982, 2383999480, 1319397705, 2536336219, 631500222, 2452434827, 3351631961],
  [3796629245, 3243406427, 2905686982, 2383999480, 2290349548, 2536336219, 631500222, 2452434827],
  [3487408536, 3796629245, 3243406427, 2905686982, 2617050184, 2290349548, 2536336219, 631500222],
  [94234649, 3487408536, 3796629245, 3243406427, 2780545362, 2617050184, 2290349548, 2536336219],
  [1156166818, 94234649, 3487408536, 3796629245, 3360626021, 2780545362, 2617050184, 2290349548],
  [3480678056, 1156166818, 94234649, 3487408536, 3639247255, 3360626021, 2780545362, 2617050184],
  [1546931861, 3480678056, 1156166818, 94234649, 1223860325, 3639247255, 3360626021, 2780545362],
  [1331118160, 1546931861, 3480678056, 1156166818, 367170130, 1223860325, 3639247255, 3360626021],
  [1207172810, 1331118160, 1546931861, 3480678056, 4044388681, 367170130, 1223860325, 3639247255],
  [3627086696, 1207172810, 1331118160, 1546931861, 2950343182, 4044388681, 367170130, 1223860325],
  [546573902, 3627086696, 1207172810, 1331118160, 3201109086, 2950343182, 4044388681, 367170130],
  [473520161, 546573902, 3627086696, 1207172810, 2154977910, 3201109086, 2950343182, 4044388681],
  [1887836829, 473520161, 546573902, 3627086696, 1021545293, 2154977910, 3201109086, 2950343182],
  [1946675235, 1887836829, 473520161, 546573902, 2332314153, 1021545293, 2154977910, 3201109086],
  [2034328568, 1946675235, 1887836829, 473520161, 2719171134, 2332314153, 1021545293, 2154977910],
  [2892689888, 2034328568, 1946675235, 1887836829, 1417702456, 2719171134, 2332314153, 1021545293],
  [1769691782, 2892689888, 2034328568, 1946675235, 1306867109, 1417702456, 2719171134, 2332314153],
  [3972128353, 1769691782, 2892689888, 2034328568, 1414974918, 1306867109, 1417702456, 2719171134],
  [1653937629, 3972128353, 1769691782, 2892689888, 1612974288, 1414974918, 1306867109, 1417702456],
  [1432415604, 1653937629, 3972128353, 1769691782, 4141964346, 1612974288, 1414974918, 1306867109],
  [2720816116, 1432415604, 1653937629, 3972128353, 2845218806, 4141964346, 1612974288, 1414974918],
  [3022584952, 2720816116, 1432415604, 1653937629, 4169443278, 2845218806, 4141964346, 1612974288],
  [3264630472, 3022584952, 2720816116, 1432415604, 63171240, 4169443278, 2845218806, 4141964346],
  [3788923304, 3264630472, 3022584952, 2720816116, 1966230554, 63171240, 4169443278, 2845218806],
  [1072399976, 3788923304, 3264630472, 3022584952, 2496479254, 1966230554, 63171240, 4169443278],
  [2364285374, 1072399976, 3788923304, 3264630472, 3399227669, 2496479254, 1966230554, 63171240],
  [3021842557, 2364285374, 1072399976, 3788923304, 2860269664, 3399227669, 2496479254, 1966230554],
  [296396287, 3021842557, 2364285374, 1072399976, 3729271561, 2860269664, 3399227669, 2496479254],
  [1724366874, 296396287, 3021842557, 2364285374, 3506490391, 3729271561, 2860269664, 3399227669],
  [2305248929, 1724366874, 296396287, 3021842557, 1533091901, 3506490391, 3729271561, 2860269664],
  [1261157241, 2305248929, 1724366874, 296396287, 1928495236, 1533091901, 3506490391, 3729271561],
  [3240460378, 1261157241, 2305248929, 1724366874, 1601898865, 1928495236, 1533091901, 3506490391],
  [3883034754, 3240460378, 1261157241, 2305248929, 1618254821, 1601898865, 1928495236, 1533091901],
  [3189420121, 3883034754, 3240460378, 1261157241, 1341434994, 1618254821, 1601898865, 1928495236],
  [1248977900, 3189420121, 3883034754, 3240460378, 652264656, 1341434994, 1618254821, 1601898865],
  [3428054140, 1248977900, 3189420121, 3883034754, 3566533041, 652264656, 1341434994, 1618254821],
  [2940877708, 3428054140, 1248977900, 3189420121, 3913631457, 3566533041, 652264656, 1341434994],
  [2411834110, 2940877708, 3428054140, 1248977900, 2687410524, 3913631457, 3566533041, 652264656],
  [822279815, 2411834110, 2940877708, 3428054140, 4185995498, 2687410524, 3913631457, 3566533041],
  [1341247529, 822279815, 2411834110, 2940877708, 964681381, 4185995498, 2687410524, 3913631457],
  [1927581855, 1341247529, 822279815, 2411834110, 4235600577, 964681381, 4185995498, 2687410524],
  [2441362069, 1927581855, 1341247529, 822279815, 3814999612, 4235600577, 964681381, 4185995498]]
def abO : List Int := [4220395772, 776748836, 2355151771, 3595760577, 879925435, 2541456205, 1493416016, 1432487427]
def abH : List Int := [251, 142, 32, 252, 46, 76, 63, 36, 140, 96, 195, 155, 214, 82, 243, 193, 52, 114, 152, 187, 151, 123, 139, 77, 89, 3, 184, 80, 85, 98, 6, 3]
theorem abT : STab abS abB abW abR abO where
  w := by decide +kernel
  r := by decide +kernel
  r0 := by decide +kernel
  o := by decide +kernel
theorem ab_p : ∀ i : Fin 64, piece0 [97, 98] i.val = abB.getD i.val 0 := by decide +kernel
theorem ab_b : ∀ i : Fin 8, beginF i.val = abS.getD i.val 0 := by decide +kernel
theorem ab_l : ∀ i : Fin 32, layUp (fun i => abO.getD i 0) 8 i.val = abH.getD i.val 0 := by decide +kernel
theorem ab_sha (i : Nat) (hi : i < 32) : shaP [97, 98] i = abH.getD i 0 := by
  rw [sha_one [97, 98] (by decide)]
  have h1 := abT.mix beginF (fun i hi => ab_b ⟨i, hi⟩) (piece0 [97, 98]) (fun i hi => ab_p ⟨i, hi⟩)
  rw [layUp_like (d := fun i => abO.getD i 0) h1 8 (Nat.le_refl _)]
  exact ab_l ⟨i, hi⟩
end Go.Proofs.YtennogmeeefopaaDoor
namespace Go.Proofs.YtennogmeeefopaaDoor
open Go.RowKit
set_option linter.unusedSimpArgs false
set_option linter.unusedVariables false

theorem Tryd.in8 (w : World) (vs : Array Value) : (callFunc 8 vs).run Tryd.prog w = .ok (.enter 8 vs) w := by kernel_rfl
theorem bsAB (w : World) : (Instr.buildSlice 37 2 #[(0, .int .u8 97), (1, .int .u8 98)]).run Tryd.prog w = .ok (.slice (some ⟨w.heap.size, 0, none⟩) 2 2) (w.alloc (.cells (bv [97, 98]).toArray 5)) := by kernel_rfl
def abF : List Int := [2, 0, 0, 0, 253, 255, 255, 255, 251, 142, 32, 252, 46, 76, 63, 36, 97, 98]
theorem ab_frame : (hl 16 (hdF [97, 98]) ++ [97, 98]) = abF := by
  have h : ∀ i, i < 8 → shaP [97, 98] i = abH.getD i 0 := fun i hi => ab_sha i (by omega)
  have e : hl 16 (hdF [97, 98]) = [2, 0, 0, 0, 253, 255, 255, 255, shaP [97, 98] 0, shaP [97, 98] 1, shaP [97, 98] 2, shaP [97, 98] 3, shaP [97, 98] 4, shaP [97, 98] 5, shaP [97, 98] 6, shaP [97, 98] 7] := by
    unfold hdF
    generalize shaP [97, 98] = s
    rfl
  rw [e, h 0 (by omega), h 1 (by omega), h 2 (by omega), h 3 (by omega), h 4 (by omega), h 5 (by omega), h 6 (by omega), h 7 (by omega)]
  rfl
theorem ab_str : strOfNums abF = ⟨#[2, 0, 0, 0, 253, 255, 255, 255, 251, 142, 32, 252, 46, 76, 63, 36, 97, 98]⟩ := by decide +kernel
theorem fnd_one (l : List Int) (z : Int) : fnd (nmS 0) [⟨nmS 0, l, z⟩] 0 = (0, true) := by
  rw [nmS_0]
  unfold fnd
  rw [if_neg (show ¬ Op.bytesLess (⟨#[106, 48, 48, 48, 48]⟩ : ByteArray).toList (⟨#[106, 48, 48, 48, 48]⟩ : ByteArray).toList = true by decide +kernel)]
  exact congrArg (Prod.mk 0) (show ((⟨#[106, 48, 48, 48, 48]⟩ : ByteArray).toList == (⟨#[106, 48, 48, 48, 48]⟩ : ByteArray).toList) = true by decide +kernel)
theorem row_fr {w : World} {g : Nat} {l : List Int} {cs : Array Value} {fr : Nat × Nat} (h : w.heap[g]? = some (.cells cs 5 fr)) (he : cs = (bv l).toArray) (cap : Nat) (hc : l.length ≤ cap) : RowAt w (.slice (some ⟨g, 0, none⟩) l.length cap) l :=
  .inr (.inr ⟨g, 0, cap, rfl, hc, fun i hi => by rw [Nat.zero_add, cell_of_row w g i cs 5 fr h, he, List.getElem?_toArray, bv_get _ _ hi]⟩)
set_option maxRecDepth 8000 in
set_option maxHeartbeats 2000000 in
theorem awake_any (w : World) (hT : Tab w) (hZ : 0 < w.heap.size) : Calls Tryd.prog 8 #[] w fun e w' => e = .returned (.bool true) ∧ Below w.heap.size w w' := by
  have HT := Keep.mk hT
  have HZ := Keep.mk hZ
  clear hT hZ
  go_enter Tryd.func8, Tryd.ntmps8
  refine wp_seq_k fun K1 hK1 => ?_
  refine wp_region_list (WL.out ?_)
  refine WL.val (by kernel_rfl) (.bool false) (by go_simp) ?_
  simp only [Act.put, List.setIfInBounds_toArray, List.set_cons_zero, List.set_cons_succ]
  refine WL.nil ?_
  refine hK1 _ _ ?_
  refine wp_seq_k fun K2 hK2 => ?_
  refine wp_region_list (WL.out ?_)
  refine WL.callF (by kernel_rfl) 9 _ _ rfl Tryd.in9 #[.int .i64 1000] (by simp [Act.eval]) ?_
  refine (dnew_any 1000 w).mono ?_
  rintro e w1 ⟨ps, pd, ph, rfl, h1, h2, h3, h4, h5, h6, h7⟩
  refine ⟨_, rfl, ?_⟩
  have HD1 : Keep (DskAt w1 ps (.slice none 0 0) [] ⟨[], 1000, 0, -1, false, 0⟩) := ⟨h1⟩
  have HK1 := Keep.mk h2
  have HH1 := Keep.mk h3
  have LB : Keep (w.heap.size ≤ ps ∧ w.heap.size ≤ pd ∧ w.heap.size ≤ ph) := ⟨h4, h5, h6⟩
  have B1 := Keep.mk h7
  have HT1 : Keep (Tab w1) := ⟨HT.out.below h7 HZ.out⟩
  clear h1 h2 h3 h4 h5 h6 h7
  simp only [Act.put, List.setIfInBounds_toArray, List.set_cons_zero, List.set_cons_succ]
  refine WL.val (by kernel_rfl) (.tuple #[.pointer (some ⟨pd, 0, none⟩), .pointer (some ⟨ph, 0, none⟩)]) (by go_simp) ?_
  simp only [Act.put, List.setIfInBounds_toArray, List.set_cons_zero, List.set_cons_succ]
  refine WL.val (by kernel_rfl) (.pointer (some ⟨pd, 0, none⟩)) (by go_simp) ?_
  simp only [Act.put, List.setIfInBounds_toArray, List.set_cons_zero, List.set_cons_succ]
  refine WL.val (by kernel_rfl) (.pointer (some ⟨ph, 0, none⟩)) (by go_simp) ?_
  simp only [Act.put, List.setIfInBounds_toArray, List.set_cons_zero, List.set_cons_succ]
  refine WL.val (by kernel_rfl) (.pointer (some ⟨pd, 0, none⟩)) (by go_simp) ?_
  simp only [Act.put, List.setIfInBounds_toArray, List.set_cons_zero, List.set_cons_succ]
  refine WL.val (by kernel_rfl) (.pointer (some ⟨ph, 0, none⟩)) (by go_simp) ?_
  simp only [Act.put, List.setIfInBounds_toArray, List.set_cons_zero, List.set_cons_succ]
  refine WL.nil ?_
  refine hK2 _ _ ?_
  refine wp_seq_k fun K3 hK3 => ?_
  refine wp_region_list (WL.out ?_)
  refine WL.val (by kernel_rfl) (.pointer (some ⟨pd, 0, none⟩)) (by go_simp) ?_
  simp only [Act.put, List.setIfInBounds_toArray, List.set_cons_zero, List.set_cons_succ]
  refine WL.callF (by kernel_rfl) 7 _ _ rfl Tryd.in7 #[ptr pd] (by simp [Act.eval]) ?_
  refine (open_none pd ps w1 HT1.out (HK1.out.c 0 rfl) (HD1.out.blk.c 4 rfl) (HD1.out.blk.c 0 rfl)).mono ?_
  rintro e w2 ⟨g, pg, rfl, h1, h2, h3⟩
  refine ⟨_, rfl, ?_⟩
  have HJ2 := Keep.mk h1
  have LG : Keep (w.heap.size ≤ g) := ⟨Nat.le_trans B1.out.size h2⟩
  have HD2 := Keep.mk (HD1.out.below h3)
  have HK2 := Keep.mk (HK1.out.below h3 HK1.out.lt)
  have HH2 := Keep.mk (HH1.out.below h3 HH1.out.lt)
  have B2 : Keep (Below w.heap.size w w2) := ⟨B1.out.trans (h3.mono B1.out.size)⟩
  clear h1 h2 h3 HD1 HK1 HH1 HT1
  simp only [Act.put, List.setIfInBounds_toArray, List.set_cons_zero, List.set_cons_succ]
  refine WL.val (by kernel_rfl) (.tuple #[.pointer (some ⟨g, 0, none⟩), .slice (some ⟨pg, 0, none⟩) 0 0, .int .i64 0]) (by go_simp) ?_
  simp only [Act.put, List.setIfInBounds_toArray, List.set_cons_zero, List.set_cons_succ]
  refine WL.val (by kernel_rfl) (.pointer (some ⟨g, 0, none⟩)) (by go_simp) ?_
  simp only [Act.put, List.setIfInBounds_toArray, List.set_cons_zero, List.set_cons_succ]
  refine WL.val (by kernel_rfl) (.slice (some ⟨pg, 0, none⟩) 0 0) (by go_simp) ?_
  simp only [Act.put, List.setIfInBounds_toArray, List.set_cons_zero, List.set_cons_succ]
  refine WL.val (by kernel_rfl) (.int .i64 0) (by go_simp) ?_
  simp only [Act.put, List.setIfInBounds_toArray, List.set_cons_zero, List.set_cons_succ]
  refine WL.val (by kernel_rfl) (.pointer (some ⟨g, 0, none⟩)) (by go_simp) ?_
  simp only [Act.put, List.setIfInBounds_toArray, List.set_cons_zero, List.set_cons_succ]
  refine WL.val (by kernel_rfl) (.slice (some ⟨pg, 0, none⟩) 0 0) (by go_simp) ?_
  simp only [Act.put, List.setIfInBounds_toArray, List.set_cons_zero, List.set_cons_succ]
  refine WL.val (by kernel_rfl) (.int .i64 0) (by go_simp) ?_
  simp only [Act.put, List.setIfInBounds_toArray, List.set_cons_zero, List.set_cons_succ]
  refine WL.nil ?_
  refine hK3 _ _ ?_
  refine wp_seq_k fun K4 hK4 => ?_
  refine wp_seq_k fun K5 hK5 => ?_
  refine wp_region_list (WL.out ?_)
  refine WL.val (by kernel_rfl) (.int .i64 0) (by go_simp) ?_
  simp only [Act.put, List.setIfInBounds_toArray, List.set_cons_zero, List.set_cons_succ]
  refine WL.val (by kernel_rfl) (.bool false) (by go_simp) ?_
  simp only [Act.put, List.setIfInBounds_toArray, List.set_cons_zero, List.set_cons_succ]
  refine WL.val (by kernel_rfl) (.bool false) (by go_simp) ?_
  simp only [Act.put, List.setIfInBounds_toArray, List.set_cons_zero, List.set_cons_succ]
  refine WL.val (by kernel_rfl) (.pointer (some ⟨g, 0, none⟩)) (by go_simp) ?_
  simp only [Act.put, List.setIfInBounds_toArray, List.set_cons_zero, List.set_cons_succ]
  refine WL.val (by kernel_rfl) (.bool false) (by go_simp) ?_
  simp only [Act.put, List.setIfInBounds_toArray, List.set_cons_zero, List.set_cons_succ]
  refine WL.val (by kernel_rfl) (.bool false) (by go_simp) ?_
  simp only [Act.put, List.setIfInBounds_toArray, List.set_cons_zero, List.set_cons_succ]
  refine WL.val (by kernel_rfl) (.bool false) (by go_simp) ?_
  simp only [Act.put, List.setIfInBounds_toArray, List.set_cons_zero, List.set_cons_succ]
  refine WL.val (by kernel_rfl) (.slice (some ⟨pg, 0, none⟩) 0 0) (by go_simp) ?_
  simp only [Act.put, List.setIfInBounds_toArray, List.set_cons_zero, List.set_cons_succ]
  refine WL.val (by kernel_rfl) (.int .i64 0) (by go_simp) ?_
  simp only [Act.put, List.setIfInBounds_toArray, List.set_cons_zero, List.set_cons_succ]
  refine WL.val (by kernel_rfl) (.bool false) (by go_simp) ?_
  simp only [Act.put, List.setIfInBounds_toArray, List.set_cons_zero, List.set_cons_succ]
  refine WL.val (by kernel_rfl) (.bool false) (by go_simp) ?_
  simp only [Act.put, List.setIfInBounds_toArray, List.set_cons_zero, List.set_cons_succ]
  refine WL.val (by kernel_rfl) (.bool false) (by go_simp) ?_
  simp only [Act.put, List.setIfInBounds_toArray, List.set_cons_zero, List.set_cons_succ]
  refine WL.val (by kernel_rfl) (.pointer (some ⟨g, 0, none⟩)) (by go_simp) ?_
  simp only [Act.put, List.setIfInBounds_toArray, List.set_cons_zero, List.set_cons_succ]
  refine WL.bs (by kernel_rfl) 37 2 _ rfl #[(0, .int .u8 97), (1, .int .u8 98)] (by simp [Act.eval]) _ _ (bsAB w2) ?_
  simp only [Act.put, List.setIfInBounds_toArray, List.set_cons_zero, List.set_cons_succ]
  have hcc := Lib.run_convert_bytes_const (P := Tryd.prog) w2 37 5 (bv [97, 98]).toArray 2 2 Tryd.underlying37 Tryd.underlying5
  obtain ⟨w3, hw3⟩ : ∃ wx, Keep (wx = w2.alloc (.cells (bv [97, 98]).toArray 5 (((bv [97, 98]).toArray).size, ((bv [97, 98]).toArray).size + 1))) := ⟨_, ⟨rfl⟩⟩
  rw [← hw3.out] at hcc
  refine WL.valW (by kernel_rfl) (.slice (some ⟨w2.heap.size, 0, none⟩) 2 2) w3 (by go_simp) ?_
  clear hcc
  have hbx : Below w2.heap.size w2 w3 := by rw [hw3.out]; exact below_new w2 _
  have HR3 : Keep (RowAt w3 (.slice (some ⟨w2.heap.size, 0, none⟩) 2 2) [97, 98]) := ⟨by rw [hw3.out]; exact row_fr (l := [97, 98]) (heap_alloc_new w2 _) rfl 2 (by decide)⟩
  have HJ3 := Keep.mk (HJ2.out.below hbx HJ2.out.lt)
  have HD3 := Keep.mk (HD2.out.below hbx)
  have HK3 := Keep.mk (HK2.out.below hbx HK2.out.lt)
  have HH3 := Keep.mk (HH2.out.below hbx HH2.out.lt)
  have B3 : Keep (Below w.heap.size w w3) := ⟨B2.out.trans (hbx.mono B2.out.size)⟩
  have HT3 : Keep (Tab w3) := ⟨HT.out.below B3.out HZ.out⟩
  clear hbx HJ2 HD2 HK2 HH2 hw3
  obtain ⟨gb, hgb⟩ : ∃ q, Keep (q = w2.heap.size) := ⟨_, ⟨rfl⟩⟩
  rw [← hgb.out] at HR3 ⊢
  simp only [Act.put, List.setIfInBounds_toArray, List.set_cons_zero, List.set_cons_succ]
  have hja := japp_none g pd ps 0 (.slice (some ⟨gb, 0, none⟩) 2 2) (.slice none 0 0) (.slice none 0 0) [97, 98] [] ⟨[], 1000, 0, -1, false, 0⟩ [] 0 false w3 HT3.out HJ3.out HK3.out HD3.out (ownP_nil _) (fun k hk => by cases hk) (by decide) rfl rfl (by decide) (by decide) (by decide) (by decide) (by decide) HR3.out
  refine WL.callF (by kernel_rfl) 24 _ _ rfl Tryd.in24 #[ptr g, .slice (some ⟨gb, 0, none⟩) 2 2] (by simp [Act.eval]) ?_
  refine (hja).mono ?_
  rintro e w4 ⟨rfl, vp, vf, cs, h1, h2, h3, h4, h5, h6⟩
  refine ⟨_, rfl, ?_⟩
  have HJ4 := Keep.mk h1
  have HP4 := Keep.mk h2
  obtain ⟨D1, hD1⟩ : ∃ D, Keep (D = DV.appNew ⟨[], 1000, 0, -1, false, 0⟩ 0 (nmS 0) (hl 16 (hdF [97, 98]) ++ [97, 98])) := ⟨_, ⟨rfl⟩⟩
  have HD4 : Keep (DskAt w4 ps vf cs D1) := ⟨by rw [hD1.out]; exact h3⟩
  have B4 : Keep (Below w.heap.size w w4) := ⟨B3.out.trans (h4.to_below (B := w.heap.size) (fun k hk e => by have := LB.out; have := LG.out; rcases e with e | e | e; omega; omega; cases e) B3.out.size)⟩
  have NV : Keep (∀ k, DskS ps vf cs k → w.heap.size ≤ k) := ⟨fun k hk => by rcases h5 k hk with h | h; rcases h with h | h | ⟨i, x, h, _⟩; have := LB.out; omega; cases h; cases h; have := B3.out.size; omega⟩
  have HK4 : Keep (Blk w4 pd 75 #[ptr ps]) := ⟨h4.blk HK3.out fun e => by rcases e with e | e | e; subst e; have := HK3.out.typ.one HD3.out.blk.typ; revert this; decide; subst e; have := HK3.out.typ.one HJ3.out.typ; revert this; decide; cases e⟩
  have HH4 : Keep (Blk w4 ph 77 #[ptr ps]) := ⟨h4.blk HH3.out fun e => by rcases e with e | e | e; subst e; have := HH3.out.typ.one HD3.out.blk.typ; revert this; decide; subst e; have := HH3.out.typ.one HJ3.out.typ; revert this; decide; cases e⟩
  have HT4 : Keep (Tab w4) := ⟨HT.out.below B4.out HZ.out⟩
  have HCl : Keep (cs.length = 1) := ⟨by have h := h3.fcs.len; exact h⟩
  have HFs : Keep (D1.fs = [⟨nmS 0, (hl 16 (hdF [97, 98]) ++ [97, 98]), 0⟩] ∧ D1.out = false ∧ D1.fuse = -1 ∧ D1.acts = 1) := ⟨by rw [hD1.out]; exact ⟨rfl, rfl, rfl, rfl⟩⟩
  clear h1 h2 h3 h4 h5 h6 hja HJ3 HD3 HK3 HH3 HT3 HR3
  simp only [Act.put, List.setIfInBounds_toArray, List.set_cons_zero, List.set_cons_succ]
  refine WL.val (by kernel_rfl) (.bool false) (by go_simp) ?_
  simp only [Act.put, List.setIfInBounds_toArray, List.set_cons_zero, List.set_cons_succ]
  refine WL.val (by kernel_rfl) (.bool false) (by go_simp) ?_
  simp only [Act.put, List.setIfInBounds_toArray, List.set_cons_zero, List.set_cons_succ]
  refine WL.val (by kernel_rfl) (.bool false) (by go_simp) ?_
  simp only [Act.put, List.setIfInBounds_toArray, List.set_cons_zero, List.set_cons_succ]
  refine WL.val (by kernel_rfl) (.pointer (some ⟨g, 0, none⟩)) (by go_simp) ?_
  simp only [Act.put, List.setIfInBounds_toArray, List.set_cons_zero, List.set_cons_succ]
  have hjs := jsync_ok g pd ps 0 0 (by omega) vf vp cs D1 (16 + (([97, 98] : List Int).length : Int)) w4 HT4.out HJ4.out HK4.out HD4.out HFs.out.2.1 (by rw [HFs.out.1]; exact fnd_one _ _) (by rw [HCl.out]; decide) (by rw [HFs.out.2.2.2]; decide) (by rw [HFs.out.2.2.1]; decide)
  refine WL.callF (by kernel_rfl) 25 _ _ rfl Tryd.in25 #[ptr g] (by simp [Act.eval]) ?_
  refine (hjs).mono ?_
  rintro e w5 ⟨rfl, cs2, h1, h2, h3, h4⟩
  refine ⟨_, rfl, ?_⟩
  have HJ5 := Keep.mk h1
  have HD5 := Keep.mk h2
  have B5 : Keep (Below w.heap.size w w5) := ⟨B4.out.trans (h3.to_below (B := w.heap.size) (fun k hk e => by have := LB.out; have := LG.out; rcases e with e | e | e; omega; omega; have := NV.out k (.inr (.inl e)); omega) B4.out.size)⟩
  have HH5 : Keep (Blk w5 ph 77 #[ptr ps]) := ⟨h3.blk HH4.out fun e => by rcases e with e | e | e; subst e; have := HH4.out.typ.one HJ4.out.typ; revert this; decide; subst e; have := HH4.out.typ.one HD4.out.blk.typ; revert this; decide; have := HH4.out.typ.one (HD4.out.own.typ e); revert this; decide⟩
  clear h1 h2 h3 h4 hjs HD4 HK4 HH4 HT4
  obtain ⟨va, vc, hvp⟩ := HP4.out.sl
  have hvp : vp = .slice va 1 vc := hvp
  subst hvp
  have c4 := HJ5.out.c 4 (by rfl : (jA pd (.slice va 1 vc) ((0 : Nat) : Int) (16 + (([97, 98] : List Int).length : Int)) false false)[4]? = some (.bool false))
  have c5 := HJ5.out.c 5 (by rfl : (jA pd (.slice va 1 vc) ((0 : Nat) : Int) (16 + (([97, 98] : List Int).length : Int)) false false)[5]? = some (.bool false))
  have c1 := HJ5.out.c 1 (by rfl : (jA pd (.slice va 1 vc) ((0 : Nat) : Int) (16 + (([97, 98] : List Int).length : Int)) false false)[1]? = some (.slice va 1 vc))
  have C4 := Keep.mk c4
  have C5 := Keep.mk c5
  have C1 := Keep.mk c1
  clear c4 c5 c1
  simp only [Act.put, List.setIfInBounds_toArray, List.set_cons_zero, List.set_cons_succ]
  refine WL.val (by kernel_rfl) (.bool false) (by go_simp) ?_
  simp only [Act.put, List.setIfInBounds_toArray, List.set_cons_zero, List.set_cons_succ]
  refine WL.val (by kernel_rfl) (.bool false) (by go_simp) ?_
  simp only [Act.put, List.setIfInBounds_toArray, List.set_cons_zero, List.set_cons_succ]
  refine WL.val (by kernel_rfl) (.bool false) (by go_simp) ?_
  simp only [Act.put, List.setIfInBounds_toArray, List.set_cons_zero, List.set_cons_succ]
  refine WL.val (by kernel_rfl) (.pointer (some ⟨g, 0, none⟩)) (by go_simp) ?_
  simp only [Act.put, List.setIfInBounds_toArray, List.set_cons_zero, List.set_cons_succ]
  refine WL.callF (by kernel_rfl) 25 _ _ rfl Tryd.in25 #[ptr g] (by simp [Act.eval]) ?_
  refine (jsync_idle g w5 C5.out C4.out).mono ?_
  rintro e wy ⟨rfl, hy⟩
  refine ⟨_, rfl, ?_⟩
  subst hy
  simp only [Act.put, List.setIfInBounds_toArray, List.set_cons_zero, List.set_cons_succ]
  refine WL.val (by kernel_rfl) (.bool false) (by go_simp) ?_
  simp only [Act.put, List.setIfInBounds_toArray, List.set_cons_zero, List.set_cons_succ]
  refine WL.val (by kernel_rfl) (.bool false) (by go_simp) ?_
  simp only [Act.put, List.setIfInBounds_toArray, List.set_cons_zero, List.set_cons_succ]
  refine WL.val (by kernel_rfl) (.bool false) (by go_simp) ?_
  simp only [Act.put, List.setIfInBounds_toArray, List.set_cons_zero, List.set_cons_succ]
  refine WL.val (by kernel_rfl) (.pointer (some ⟨g, 0, none⟩)) (by go_simp) ?_
  simp only [Act.put, List.setIfInBounds_toArray, List.set_cons_zero, List.set_cons_succ]
  refine WL.callF (by kernel_rfl) 26 _ _ rfl Tryd.in26 #[ptr g] (by simp [Act.eval]) ?_
  refine (len_any g va 1 vc wy C1.out).mono ?_
  rintro e wx ⟨rfl, hx⟩
  refine ⟨_, rfl, ?_⟩
  subst hx
  simp only [Act.put, List.setIfInBounds_toArray, List.set_cons_zero, List.set_cons_succ]
  refine WL.val (by kernel_rfl) (.bool false) (by go_simp) ?_
  simp only [Act.put, List.setIfInBounds_toArray, List.set_cons_zero, List.set_cons_succ]
  refine WL.val (by kernel_rfl) (.bool false) (by go_simp) ?_
  simp only [Act.put, List.setIfInBounds_toArray, List.set_cons_zero, List.set_cons_succ]
  refine WL.val (by kernel_rfl) (.bool false) (by go_simp) ?_
  simp only [Act.put, List.setIfInBounds_toArray, List.set_cons_zero, List.set_cons_succ]
  refine WL.val (by kernel_rfl) (.pointer (some ⟨ph, 0, none⟩)) (by go_simp) ?_
  simp only [Act.put, List.setIfInBounds_toArray, List.set_cons_zero, List.set_cons_succ]
  refine WL.callF (by kernel_rfl) 27 _ _ rfl Tryd.in27 #[ptr ph] (by simp [Act.eval]) ?_
  refine (acts_any ph ps 2 wx (HH5.out.c 0 rfl) (HD5.out.blk.c 5 (by show some (Value.int .i64 (D1.acts + 1)) = _; rw [HFs.out.2.2.2]; rfl))).mono ?_
  rintro e wu ⟨rfl, hu⟩
  refine ⟨_, rfl, ?_⟩
  subst hu
  simp only [Act.put, List.setIfInBounds_toArray, List.set_cons_zero, List.set_cons_succ]
  refine WL.val (by kernel_rfl) (.bool false) (by go_simp) ?_
  simp only [Act.put, List.setIfInBounds_toArray, List.set_cons_zero, List.set_cons_succ]
  refine WL.val (by kernel_rfl) (.bool false) (by go_simp) ?_
  simp only [Act.put, List.setIfInBounds_toArray, List.set_cons_zero, List.set_cons_succ]
  refine WL.nil ?_
  refine hK5 _ _ ?_
  refine wp_cond_false rfl ?_
  refine wp_skip ?_
  refine hK4 _ _ ?_
  refine wp_seq_k fun K6 hK6 => ?_
  refine wp_region_list (WL.out ?_)
  refine WL.val (by kernel_rfl) (.pointer (some ⟨ph, 0, none⟩)) (by go_simp) ?_
  simp only [Act.put, List.setIfInBounds_toArray, List.set_cons_zero, List.set_cons_succ]
  have hfs : (D1.act.sync 0).fs = [⟨nmS 0, (hl 16 (hdF [97, 98]) ++ [97, 98]), ((hl 16 (hdF [97, 98]) ++ [97, 98]).length : Int)⟩] := by show D1.fs.modify 0 PF.sync = _; rw [HFs.out.1]; rfl
  have hfi := files_any ph ps vf cs2 (D1.act.sync 0) wu HH5.out HD5.out (by have h := HD5.out.fcs.len; rw [hfs] at h; simp at h; omega) (by rw [hfs]; intro f hf; simp at hf; subst hf; simp [hl_len])
  refine WL.callF (by kernel_rfl) 28 _ _ rfl Tryd.in28 #[ptr ph] (by simp [Act.eval]) ?_
  refine (hfi).mono ?_
  rintro e w7 ⟨v7, ct, rfl, h1, h2, h3, h4, h5⟩
  refine ⟨_, rfl, ?_⟩
  have B7 : Keep (Below w.heap.size w w7) := ⟨B5.out.trans (h5.mono B5.out.size)⟩
  rw [hfs] at h2
  have hcl : ct.length = 1 := h2.len
  obtain ⟨x, hx⟩ : ∃ x, ct = [x] := by rcases ct with _ | ⟨x, _ | ⟨y, r⟩⟩ <;> simp at hcl; exact ⟨x, rfl⟩
  subst hx
  have hxf := h2.each 0 x _ rfl rfl
  obtain ⟨va7, vc7, e7⟩ := h1.sl
  have e7 : v7 = .slice va7 1 vc7 := e7
  subst e7
  obtain ⟨gv, ea, hrg⟩ := h1.at (t := 0) (c := x) rfl
  subst ea
  obtain ⟨xn, xb, xs⟩ := x
  obtain ⟨hx1, hx2, hx3⟩ := hxf
  change xn = nmS 0 at hx1
  change xs = _ at hx2
  rw [nmS_0] at hx1
  have hx2 : xs = 18 := by rw [hx2]; simp [hl_len]
  subst hx1 hx2
  have hrw := hx3.row
  rw [ab_frame] at hrw
  obtain ⟨xa, xc, exb⟩ := row_form hrw
  have exb : xb = .slice xa 18 xc := exb
  subst exb
  have q0 : w7.cell? ⟨gv, 0, none⟩ = some (.string ⟨#[106, 48, 48, 48, 48]⟩) := hrg 0 _ rfl
  have q1 : w7.cell? ⟨gv, 1, none⟩ = some (.slice xa 18 xc) := hrg 1 _ rfl
  have q2 : w7.cell? ⟨gv, 2, none⟩ = some (.int .i64 18) := hrg 2 _ rfl
  have hcv := conv_row _ _ w7 hrw
  rw [ab_str] at hcv
  clear h1 h2 h3 h4 h5 hfi hfs hrg hx3 hrw hcl
  simp only [Act.put, List.setIfInBounds_toArray, List.set_cons_zero, List.set_cons_succ]
  refine WL.val (by kernel_rfl) (.slice (some ⟨gv, 0, none⟩) 1 vc7) (by go_simp) ?_
  simp only [Act.put, List.setIfInBounds_toArray, List.set_cons_zero, List.set_cons_succ]
  refine WL.nil ?_
  refine hK6 _ _ ?_
  refine wp_seq_k fun K7 hK7 => ?_
  refine wp_region_list (WL.out ?_)
  refine WL.val (by kernel_rfl) (.slice (some ⟨gv, 0, none⟩) 1 vc7) (by go_simp) ?_
  simp only [Act.put, List.setIfInBounds_toArray, List.set_cons_zero, List.set_cons_succ]
  refine WL.val (by kernel_rfl) (.int .i64 1) (by go_simp) ?_
  simp only [Act.put, List.setIfInBounds_toArray, List.set_cons_zero, List.set_cons_succ]
  refine WL.val (by kernel_rfl) (.bool true) (by go_simp) ?_
  simp only [Act.put, List.setIfInBounds_toArray, List.set_cons_zero, List.set_cons_succ]
  refine WL.val (by kernel_rfl) (.bool true) (by go_simp) ?_
  simp only [Act.put, List.setIfInBounds_toArray, List.set_cons_zero, List.set_cons_succ]
  refine WL.val (by kernel_rfl) (.slice (some ⟨gv, 0, none⟩) 1 vc7) (by go_simp) ?_
  simp only [Act.put, List.setIfInBounds_toArray, List.set_cons_zero, List.set_cons_succ]
  refine WL.val (by kernel_rfl) (.pointer (some ⟨gv, 0, none⟩)) (by go_simp) ?_
  simp only [Act.put, List.setIfInBounds_toArray, List.set_cons_zero, List.set_cons_succ]
  refine WL.val (by kernel_rfl) (.pointer (some ⟨gv, 0, none⟩)) (by go_simp) ?_
  simp only [Act.put, List.setIfInBounds_toArray, List.set_cons_zero, List.set_cons_succ]
  refine WL.val (by kernel_rfl) (.string ⟨#[106, 48, 48, 48, 48]⟩) (by go_simp) ?_
  simp only [Act.put, List.setIfInBounds_toArray, List.set_cons_zero, List.set_cons_succ]
  refine WL.val (by kernel_rfl) (.bool true) (by go_simp) ?_
  simp only [Act.put, List.setIfInBounds_toArray, List.set_cons_zero, List.set_cons_succ]
  refine WL.val (by kernel_rfl) (.bool true) (by go_simp) ?_
  simp only [Act.put, List.setIfInBounds_toArray, List.set_cons_zero, List.set_cons_succ]
  refine WL.val (by kernel_rfl) (.bool true) (by go_simp) ?_
  simp only [Act.put, List.setIfInBounds_toArray, List.set_cons_zero, List.set_cons_succ]
  refine WL.val (by kernel_rfl) (.slice (some ⟨gv, 0, none⟩) 1 vc7) (by go_simp) ?_
  simp only [Act.put, List.setIfInBounds_toArray, List.set_cons_zero, List.set_cons_succ]
  refine WL.val (by kernel_rfl) (.pointer (some ⟨gv, 0, none⟩)) (by go_simp) ?_
  simp only [Act.put, List.setIfInBounds_toArray, List.set_cons_zero, List.set_cons_succ]
  refine WL.val (by kernel_rfl) (.pointer (some ⟨gv, 2, none⟩)) (by go_simp) ?_
  simp only [Act.put, List.setIfInBounds_toArray, List.set_cons_zero, List.set_cons_succ]
  refine WL.val (by kernel_rfl) (.int .i64 18) (by go_simp) ?_
  simp only [Act.put, List.setIfInBounds_toArray, List.set_cons_zero, List.set_cons_succ]
  refine WL.val (by kernel_rfl) (.bool true) (by go_simp) ?_
  simp only [Act.put, List.setIfInBounds_toArray, List.set_cons_zero, List.set_cons_succ]
  refine WL.val (by kernel_rfl) (.bool true) (by go_simp) ?_
  simp only [Act.put, List.setIfInBounds_toArray, List.set_cons_zero, List.set_cons_succ]
  refine WL.val (by kernel_rfl) (.bool true) (by go_simp) ?_
  simp only [Act.put, List.setIfInBounds_toArray, List.set_cons_zero, List.set_cons_succ]
  refine WL.val (by kernel_rfl) (.slice (some ⟨gv, 0, none⟩) 1 vc7) (by go_simp) ?_
  simp only [Act.put, List.setIfInBounds_toArray, List.set_cons_zero, List.set_cons_succ]
  refine WL.val (by kernel_rfl) (.pointer (some ⟨gv, 0, none⟩)) (by go_simp) ?_
  simp only [Act.put, List.setIfInBounds_toArray, List.set_cons_zero, List.set_cons_succ]
  refine WL.val (by kernel_rfl) (.pointer (some ⟨gv, 1, none⟩)) (by go_simp) ?_
  simp only [Act.put, List.setIfInBounds_toArray, List.set_cons_zero, List.set_cons_succ]
  refine WL.val (by kernel_rfl) (.slice xa 18 xc) (by go_simp) ?_
  simp only [Act.put, List.setIfInBounds_toArray, List.set_cons_zero, List.set_cons_succ]
  refine WL.val (by kernel_rfl) (.string ⟨#[2, 0, 0, 0, 253, 255, 255, 255, 251, 142, 32, 252, 46, 76, 63, 36, 97, 98]⟩) (by go_simp) ?_
  simp only [Act.put, List.setIfInBounds_toArray, List.set_cons_zero, List.set_cons_succ]
  refine WL.val (by kernel_rfl) (.bool true) (by go_simp) ?_
  simp only [Act.put, List.setIfInBounds_toArray, List.set_cons_zero, List.set_cons_succ]
  refine WL.val (by kernel_rfl) (.bool true) (by go_simp) ?_
  simp only [Act.put, List.setIfInBounds_toArray, List.set_cons_zero, List.set_cons_succ]
  refine WL.val (by kernel_rfl) (.bool true) (by go_simp) ?_
  simp only [Act.put, List.setIfInBounds_toArray, List.set_cons_zero, List.set_cons_succ]
  refine WL.nil ?_
  refine hK7 _ _ ?_
  refine wp_ret ?_
  go_ret
  exact ⟨rfl, B7.out⟩
end Go.Proofs.YtennogmeeefopaaDoor
namespace Go.Proofs.YtennogmeeefopaaDoor
open Go.RowKit
set_option linter.unusedSimpArgs false
set_option linter.unusedVariables false

theorem Tryd.in3 (w : World) (vs : Array Value) : (callFunc 3 vs).run Tryd.prog w = .ok (.enter 3 vs) w := by kernel_rfl
set_option maxRecDepth 8000 in
theorem jnames_any (w : World) (hT : Tab w) (hZ : 0 < w.heap.size) : Calls Tryd.prog 3 #[] w fun e w' => e = .returned (.bool true) ∧ Below w.heap.size w w' := by
  have HT := Keep.mk hT
  have HZ := Keep.mk hZ
  clear hT hZ
  go_enter Tryd.func3, Tryd.ntmps3
  refine wp_seq_k fun K1 hK1 => ?_
  refine wp_region_list (WL.out ?_)
  refine WL.val (by kernel_rfl) (.bool false) (by go_simp) ?_
  simp only [Act.put, List.setIfInBounds_toArray, List.set_cons_zero, List.set_cons_succ]
  refine WL.nil ?_
  refine hK1 _ _ ?_
  refine wp_seq_k fun K2 hK2 => ?_
  refine wp_region_list (WL.out ?_)
  refine WL.callF (by kernel_rfl) 7 _ _ rfl Tryd.in7 #[.pointer none] (by simp [Act.eval]) ?_
  refine (open_nil w).mono ?_
  rintro e w1 ⟨rfl, h1⟩
  refine ⟨_, rfl, ?_⟩
  subst h1
  simp only [Act.put, List.setIfInBounds_toArray, List.set_cons_zero, List.set_cons_succ]
  refine WL.val (by kernel_rfl) (.tuple #[.pointer none, .slice none 0 0, .int .i64 1]) (by go_simp) ?_
  simp only [Act.put, List.setIfInBounds_toArray, List.set_cons_zero, List.set_cons_succ]
  refine WL.val (by kernel_rfl) (.pointer none) (by go_simp) ?_
  simp only [Act.put, List.setIfInBounds_toArray, List.set_cons_zero, List.set_cons_succ]
  refine WL.val (by kernel_rfl) (.slice none 0 0) (by go_simp) ?_
  simp only [Act.put, List.setIfInBounds_toArray, List.set_cons_zero, List.set_cons_succ]
  refine WL.val (by kernel_rfl) (.int .i64 1) (by go_simp) ?_
  simp only [Act.put, List.setIfInBounds_toArray, List.set_cons_zero, List.set_cons_succ]
  refine WL.val (by kernel_rfl) (.pointer none) (by go_simp) ?_
  simp only [Act.put, List.setIfInBounds_toArray, List.set_cons_zero, List.set_cons_succ]
  refine WL.val (by kernel_rfl) (.slice none 0 0) (by go_simp) ?_
  simp only [Act.put, List.setIfInBounds_toArray, List.set_cons_zero, List.set_cons_succ]
  refine WL.val (by kernel_rfl) (.int .i64 1) (by go_simp) ?_
  simp only [Act.put, List.setIfInBounds_toArray, List.set_cons_zero, List.set_cons_succ]
  refine WL.nil ?_
  refine hK2 _ _ ?_
  refine wp_seq_k fun K3 hK3 => ?_
  refine wp_region_list (WL.out ?_)
  refine WL.val (by kernel_rfl) (.bool true) (by go_simp) ?_
  simp only [Act.put, List.setIfInBounds_toArray, List.set_cons_zero, List.set_cons_succ]
  refine WL.nil ?_
  refine hK3 _ _ ?_
  refine wp_seq_k fun K4 hK4 => ?_
  refine wp_region_list (WL.out ?_)
  refine WL.val (by kernel_rfl) (.bool true) (by go_simp) ?_
  simp only [Act.put, List.setIfInBounds_toArray, List.set_cons_zero, List.set_cons_succ]
  refine WL.val (by kernel_rfl) (.bool true) (by go_simp) ?_
  simp only [Act.put, List.setIfInBounds_toArray, List.set_cons_zero, List.set_cons_succ]
  refine WL.val (by kernel_rfl) (.bool true) (by go_simp) ?_
  simp only [Act.put, List.setIfInBounds_toArray, List.set_cons_zero, List.set_cons_succ]
  refine WL.val (by kernel_rfl) (.bool true) (by go_simp) ?_
  simp only [Act.put, List.setIfInBounds_toArray, List.set_cons_zero, List.set_cons_succ]
  refine WL.val (by kernel_rfl) (.bool true) (by go_simp) ?_
  simp only [Act.put, List.setIfInBounds_toArray, List.set_cons_zero, List.set_cons_succ]
  refine WL.val (by kernel_rfl) (.bool true) (by go_simp) ?_
  simp only [Act.put, List.setIfInBounds_toArray, List.set_cons_zero, List.set_cons_succ]
  refine WL.val (by kernel_rfl) (.bool true) (by go_simp) ?_
  simp only [Act.put, List.setIfInBounds_toArray, List.set_cons_zero, List.set_cons_succ]
  refine WL.val (by kernel_rfl) (.bool true) (by go_simp) ?_
  simp only [Act.put, List.setIfInBounds_toArray, List.set_cons_zero, List.set_cons_succ]
  refine WL.val (by kernel_rfl) (.bool true) (by go_simp) ?_
  simp only [Act.put, List.setIfInBounds_toArray, List.set_cons_zero, List.set_cons_succ]
  refine WL.val (by kernel_rfl) (.bool true) (by go_simp) ?_
  simp only [Act.put, List.setIfInBounds_toArray, List.set_cons_zero, List.set_cons_succ]
  refine WL.val (by kernel_rfl) (.bool true) (by go_simp) ?_
  simp only [Act.put, List.setIfInBounds_toArray, List.set_cons_zero, List.set_cons_succ]
  refine WL.val (by kernel_rfl) (.bool true) (by go_simp) ?_
  simp only [Act.put, List.setIfInBounds_toArray, List.set_cons_zero, List.set_cons_succ]
  refine WL.val (by kernel_rfl) (.bool true) (by go_simp) ?_
  simp only [Act.put, List.setIfInBounds_toArray, List.set_cons_zero, List.set_cons_succ]
  refine WL.val (by kernel_rfl) (.bool true) (by go_simp) ?_
  simp only [Act.put, List.setIfInBounds_toArray, List.set_cons_zero, List.set_cons_succ]
  refine WL.val (by kernel_rfl) (.pointer none) (by go_simp) ?_
  simp only [Act.put, List.setIfInBounds_toArray, List.set_cons_zero, List.set_cons_succ]
  refine WL.val (by kernel_rfl) (.bool true) (by go_simp) ?_
  simp only [Act.put, List.setIfInBounds_toArray, List.set_cons_zero, List.set_cons_succ]
  refine WL.val (by kernel_rfl) (.bool true) (by go_simp) ?_
  simp only [Act.put, List.setIfInBounds_toArray, List.set_cons_zero, List.set_cons_succ]
  refine WL.val (by kernel_rfl) (.bool true) (by go_simp) ?_
  simp only [Act.put, List.setIfInBounds_toArray, List.set_cons_zero, List.set_cons_succ]
  refine WL.val (by kernel_rfl) (.slice none 0 0) (by go_simp) ?_
  simp only [Act.put, List.setIfInBounds_toArray, List.set_cons_zero, List.set_cons_succ]
  refine WL.val (by kernel_rfl) (.int .i64 0) (by go_simp) ?_
  simp only [Act.put, List.setIfInBounds_toArray, List.set_cons_zero, List.set_cons_succ]
  refine WL.val (by kernel_rfl) (.bool true) (by go_simp) ?_
  simp only [Act.put, List.setIfInBounds_toArray, List.set_cons_zero, List.set_cons_succ]
  refine WL.val (by kernel_rfl) (.bool true) (by go_simp) ?_
  simp only [Act.put, List.setIfInBounds_toArray, List.set_cons_zero, List.set_cons_succ]
  refine WL.val (by kernel_rfl) (.bool true) (by go_simp) ?_
  simp only [Act.put, List.setIfInBounds_toArray, List.set_cons_zero, List.set_cons_succ]
  refine WL.val (by kernel_rfl) (.int .i64 1) (by go_simp) ?_
  simp only [Act.put, List.setIfInBounds_toArray, List.set_cons_zero, List.set_cons_succ]
  refine WL.val (by kernel_rfl) (.bool true) (by go_simp) ?_
  simp only [Act.put, List.setIfInBounds_toArray, List.set_cons_zero, List.set_cons_succ]
  refine WL.val (by kernel_rfl) (.bool true) (by go_simp) ?_
  simp only [Act.put, List.setIfInBounds_toArray, List.set_cons_zero, List.set_cons_succ]
  refine WL.val (by kernel_rfl) (.bool true) (by go_simp) ?_
  simp only [Act.put, List.setIfInBounds_toArray, List.set_cons_zero, List.set_cons_succ]
  refine WL.callF (by kernel_rfl) 8 _ _ rfl Tryd.in8 #[] (by simp) ?_
  refine (awake_any w1 HT.out HZ.out).mono ?_
  rintro e w2 ⟨rfl, h2⟩
  refine ⟨_, rfl, ?_⟩
  have B2 := Keep.mk h2
  clear h2
  simp only [Act.put, List.setIfInBounds_toArray, List.set_cons_zero, List.set_cons_succ]
  refine WL.val (by kernel_rfl) (.bool true) (by go_simp) ?_
  simp only [Act.put, List.setIfInBounds_toArray, List.set_cons_zero, List.set_cons_succ]
  refine WL.val (by kernel_rfl) (.bool true) (by go_simp) ?_
  simp only [Act.put, List.setIfInBounds_toArray, List.set_cons_zero, List.set_cons_succ]
  refine WL.nil ?_
  refine hK4 _ _ ?_
  refine wp_ret ?_
  go_ret
  exact ⟨rfl, B2.out⟩
end Go.Proofs.YtennogmeeefopaaDoor
