import Derived.Test.YtpakaladpdoejaaPrgF
import Derived.Test.YtpakaladpdoejaaRnd
import Derived.Test.YtpakaladpdoejaaGrwB
namespace Go.Proofs.Ytpakaladpdoejaa
open Go.RowKit

theorem tnL_byts (l : List Int) : Byts (tnL l) := fun c hc => by
  unfold tnL at hc
  obtain ⟨x, hx, rfl⟩ := List.mem_map.1 hc
  exact xor_rng _ _ (by rw [IntKind.wrap_u8]; omega) (by omega)
/-- What both Seals tell. -/
def resL (key : List Int) (f t : Int) (body : List Int) : List Int := if sealW key f t body = 0 then sealL key f t body else []
theorem resL_len (key : List Int) (f t : Int) (body : List Int) : (resL key f t body).length ≤ 2097194 := by
  unfold resL
  split
  · rename_i h
    obtain ⟨_, _, _, h4⟩ := sealW_0 h
    rw [sealL_len]; omega
  · simp
def ResP (key : List Int) (f t : Int) (body : List Int) (w : World) (e : Ending) (w' : World) : Prop :=
  ∃ a n c, e = .returned (.tuple #[.slice a n c, .int .i64 (sealW key f t body)]) ∧ Below w.heap.size w w' ∧ OwnT w' (.slice a n c) (resL key f t body) ∧ ∀ k, (Value.slice a n c).ownBlock = some k → w.heap.size ≤ k
theorem resP_ref (vk vb : Value) (key : List Int) (f t : Int) (body : List Int) (w : World) (hk : RowAt w vk key) (hb : RowAt w vb body) (hkl : key.length ≤ 140737488351232) (hbl : body.length ≤ 140737488351232) :
    Calls Try.prog 14 #[vk, .agg #[.int .i64 f, .int .i64 t, vb]] w (ResP key f t body w) := by
  refine (refSeal_any vk vb key f t body w hk hb hkl hbl).mono ?_
  rintro e w' ⟨v, rfl, hB, hc⟩
  rcases hc with ⟨h0, hF⟩ | ⟨h0, rfl⟩
  · obtain ⟨a, n, c, rfl⟩ := hF.1.sl
    refine ⟨a, n, c, rfl, hB, ?_, fun k hk => ?_⟩
    · unfold resL; rw [if_pos h0]; exact hF.1.tail
    · obtain ⟨j, hj, hw⟩ := hF.2.1
      rw [hj] at hk; injection hk with hk; omega
  · refine ⟨_, _, _, rfl, hB, ?_, fun k hk => by simp [Value.ownBlock] at hk⟩
    unfold resL; rw [if_neg h0]; exact .inl ⟨rfl, rfl⟩
theorem resP_prog (vk vb : Value) (key : List Int) (f t : Int) (body : List Int) (w : World) (hk : RowAt w vk key) (hb : RowAt w vb body) (hkl : key.length ≤ 140737488351232) (hbl : body.length ≤ 140737488351232) (hby : Byts body) :
    Calls Try.prog 15 #[vk, .agg #[.int .i64 f, .int .i64 t, vb]] w (ResP key f t body w) := by
  refine (seal_ok vk vb key f t body w hk hb hkl hbl hby).mono ?_
  rintro e w' ⟨v, l, rfl, hB, hO, hf, hc⟩
  obtain ⟨a, n, c, rfl⟩ := hO.sl
  refine ⟨a, n, c, rfl, hB, ?_, hf⟩
  unfold resL
  rcases hc with ⟨h0, rfl⟩ | ⟨h0, rfl⟩
  · rw [if_pos h0]; exact hO
  · rw [if_neg h0]; exact hO
/-- What stands between the calls of SealMakes. -/
structure Mk (w0 w : World) (gk gw gm : Nat) (f t : Int) (vb : Value) (kl bl : List Int) (nb : Nat) : Prop where
  env : Blk w w0.heap.size 31 (env3 f t vb)
  k : Wd w gk kl
  d : Wd w gw bl
  mine : Blk w gm 31 (env3 f t (.slice (some ⟨gw, 0, none⟩) nb (nb + 8)))
  low : Below w0.heap.size w0 w
theorem Mk.next {w0 w w' : World} {gk gw gm : Nat} {f t : Int} {vb : Value} {kl bl : List Int} {nb : Nat} (h : Mk w0 w gk gw gm f t vb kl bl nb) (hb : Below w.heap.size w w') : Mk w0 w' gk gw gm f t vb kl bl nb :=
  ⟨h.env.below hb h.env.lt, h.k.below hb h.k.lt, h.d.below hb h.d.lt, h.mine.below hb h.mine.lt, h.low.trans (hb.mono h.low.size)⟩
theorem Mk.turnK {w0 w w' : World} {gk gw gm : Nat} {f t : Int} {vb : Value} {kl kl' bl : List Int} {nb : Nat} (h : Mk w0 w gk gw gm f t vb kl bl nb) (hg : Grown w w' fun k => k = gk) (hk : Wd w' gk kl') (h0 : w0.heap.size ≤ gk) (hne : gk < gw) : Mk w0 w' gk gw gm f t vb kl' bl nb :=
  ⟨hg.blk h.env (blk_ne h.env h.k (by decide)), hk, hg.blk h.d (fun e => by omega), hg.blk h.mine (blk_ne h.mine h.k (by decide)), h.low.trans (hg.to_below (fun k hk e => by omega) h.low.size)⟩
theorem Mk.turnD {w0 w w' : World} {gk gw gm : Nat} {f t : Int} {vb : Value} {kl bl bl' : List Int} {nb : Nat} (h : Mk w0 w gk gw gm f t vb kl bl nb) (hg : Grown w w' fun k => k = gw) (hd : Wd w' gw bl') (h0 : w0.heap.size ≤ gk) (hne : gk < gw) : Mk w0 w' gk gw gm f t vb kl bl' nb :=
  ⟨hg.blk h.env (blk_ne h.env h.d (by decide)), hg.blk h.k (fun e => by omega), hd, hg.blk h.mine (blk_ne h.mine h.d (by decide)), h.low.trans (hg.to_below (fun k hk e => by omega) h.low.size)⟩
theorem Try.new31E (w : World) : (Instr.alloc 31 true (.tuple #[])).run Try.prog w = .ok (.pointer (some ⟨w.heap.size, 0, none⟩)) (w.alloc (.cells (env3 0 0 (.slice none 0 0)) 31)) := Try.new31 w
theorem Try.enter14 (w : World) (vs : Array Value) : (callFunc 14 vs).run Try.prog w = .ok (.enter 14 vs) w := by kernel_rfl
theorem Try.enter15 (w : World) (vs : Array Value) : (callFunc 15 vs).run Try.prog w = .ok (.enter 15 vs) w := by kernel_rfl
def three {α : Type} (x y z : α) : Nat → α := fun i => if i = 0 then x else if i = 1 then y else z
theorem env_cells {w : World} {g : Nat} {f t : Int} {v : Value} (h : Blk w g 31 (env3 f t v)) : w.cell? ⟨g, 0, none⟩ = some (.int .i64 f) ∧ w.cell? ⟨g, 1, none⟩ = some (.int .i64 t) ∧ w.cell? ⟨g, 2, none⟩ = some v := by
  refine ⟨?_, ?_, ?_⟩ <;> (rw [h.cell]; rfl)
theorem Try.bs0 (w : World) : (Instr.buildSlice 23 0 #[]).run Try.prog w = .ok (.slice (some ⟨w.heap.size, 0, none⟩) 0 0) (w.alloc (.cells #[] 5)) := by kernel_rfl
set_option maxRecDepth 4000 in
set_option maxHeartbeats 8000000 in
theorem makes_any (vk vb : Value) (key : List Int) (f t : Int) (body : List Int) (w : World) (hk : RowAt w vk key) (hb : RowAt w vb body) (hkl : key.length ≤ 140737488351232) (hbl : body.length ≤ 140737488351232) (hby : Byts body) :
    Calls Try.prog 5 #[vk, .agg #[.int .i64 f, .int .i64 t, vb]] w fun e w' => e = .returned (.bool true) ∧ Below w.heap.size w w' := by
  have HRk := Keep.mk hk
  have HRb := Keep.mk hb
  have HKl := Keep.mk hkl
  have HBl := Keep.mk hbl
  have HBy := Keep.mk hby
  obtain ⟨ka, kc, rfl⟩ := row_form hk
  obtain ⟨xa, xc, rfl⟩ := row_form hb
  have hsk : (key.length : Int) ≤ 140737488351232 := by omega
  have hsb : (body.length : Int) ≤ 140737488351232 := by omega
  have HA := Keep.mk (below_new w (.cells #[.int .i64 f, .int .i64 t, .slice xa body.length xc] 31))
  have HX := Keep.mk (show Blk (w.alloc (.cells #[.int .i64 f, .int .i64 t, .slice xa body.length xc] 31)) w.heap.size 31 (env3 f t (.slice xa body.length xc)) from Blk.new w 31 _)
  clear hk hb hkl hbl hby
  go_enter Try.func5, Try.ntmps5
  go_wp2_with (first | (refine wpList_boxA rfl 31 (.tmp 1) rfl _ rfl ?_; refine Hid.out ?_))
  refine hid_in ?_
  generalize w.alloc (.cells #[.int .i64 f, .int .i64 t, .slice xa body.length xc] 31) = w1 at *
  go_wp2_with fail
  refine (fixed3_any mac_ok w1).mono ?_
  rintro e w2 ⟨rfl, hb2⟩
  have HB2 := Keep.mk (HA.out.trans (hb2.mono HA.out.size))
  have HX2 := Keep.mk (HX.out.below hb2 HX.out.lt)
  clear hb2 HA HX
  go_wp2_with fail
  refine (wide3_any _ key w2 (HRk.out.below HB2.out) (by have := HKl.out; omega)).mono ?_
  rintro e w3 ⟨rfl, hW, hb3⟩
  obtain ⟨gk, hgk⟩ : ∃ gk, Keep (gk = w2.heap.size) := ⟨_, ⟨rfl⟩⟩
  rw [← hgk.out] at hW
  rw [← hgk.out]
  have HB3 := Keep.mk (HB2.out.trans (hb3.mono HB2.out.size))
  have HK3 := Keep.mk hW
  have HX3 := Keep.mk (HX2.out.below hb3 HX2.out.lt)
  have Hgk : Keep (w.heap.size ≤ gk) := ⟨by rw [hgk.out]; exact HB2.out.size⟩
  clear hW hb3 HB2 HX2 hgk
  have e2 := (env_cells HX3.out).2.2
  go_wp2_with fail
  refine (wide3_any _ body w3 (HRb.out.below HB3.out) (by have := HBl.out; omega)).mono ?_
  rintro e w4 ⟨rfl, hW, hb4⟩
  clear e2
  obtain ⟨gw, hgw⟩ : ∃ gw, Keep (gw = w3.heap.size) := ⟨_, ⟨rfl⟩⟩
  rw [← hgw.out] at hW
  rw [← hgw.out]
  have HB4 := Keep.mk (HB3.out.trans (hb4.mono HB3.out.size))
  have HK4 := Keep.mk (HK3.out.below hb4 HK3.out.lt)
  have HX4 := Keep.mk (HX3.out.below hb4 HX3.out.lt)
  have HW4 := Keep.mk hW
  have Hgkw : Keep (gk < gw) := ⟨by rw [hgw.out]; exact HK3.out.lt⟩
  clear hW hb4 HB3 HK3 HX3 hgw
  have hslk := sl_run (some ⟨gk, 0, none⟩) (key.length + 8) (key.length + 8) key.length (by omega)
  have hslw := sl_run (some ⟨gw, 0, none⟩) (body.length + 8) (body.length + 8) body.length (by omega)
  have hD4 : Below w4.heap.size w4 w4.drew := (Below.refl _ _).drew
  have HS4 : Keep (∀ wx, Below w4.heap.size w4 wx → wx.cell? ⟨w.heap.size, 0, none⟩ = some (.int .i64 f) ∧ wx.cell? ⟨w.heap.size, 1, none⟩ = some (.int .i64 t) ∧ wx.cell? ⟨w.heap.size, 2, none⟩ = some (.slice xa body.length xc)) := ⟨fun wx hx => env_cells (HX4.out.below hx HX4.out.lt)⟩
  go_wp2_with fail
  refine wp_region_held_drew (S := fun wx => wx.cell? ⟨w.heap.size, 0, none⟩ = some (.int .i64 f) ∧ wx.cell? ⟨w.heap.size, 1, none⟩ = some (.int .i64 t) ∧ wx.cell? ⟨w.heap.size, 2, none⟩ = some (.slice xa body.length xc)) (by kernel_rfl) (HS4.out _ hD4) (fun hHeld => ?_)
  refine wpAnyH_take (i := 0) (oi := ⟨some 32, Op.fieldAddr 31 (Operand.tmp 3) 0, 0, _, _, none⟩) (v := .pointer (some ⟨w.heap.size, 0, none⟩)) rfl (by kernel_rfl) (by kernel_rfl) (by kernel_rfl) (fun _ _ _ h => h) (Or.inl ⟨by rfl, fun w hS => by go_simp⟩) hHeld ?_
  simp only [Act.put, List.setIfInBounds_toArray, List.set_cons_zero, List.set_cons_succ]
  refine wpAnyH_take (i := 1) (oi := ⟨some 33, Op.load 3 (Operand.tmp 32), 3, _, _, none⟩) (v := .int .i64 f) rfl (by kernel_rfl) (by kernel_rfl) (by kernel_rfl) (fun _ _ _ h => h) (Or.inl ⟨by rfl, fun w hS => by obtain ⟨h1, h2, h3⟩ := hS; go_simp⟩) hHeld ?_
  simp only [Act.put, List.setIfInBounds_toArray, List.set_cons_zero, List.set_cons_succ]
  refine wpAnyH_take (i := 2) (oi := ⟨some 34, Op.fieldAddr 31 (Operand.tmp 3) 1, 0, _, _, none⟩) (v := .pointer (some ⟨w.heap.size, 1, none⟩)) rfl (by kernel_rfl) (by kernel_rfl) (by kernel_rfl) (fun _ _ _ h => h) (Or.inl ⟨by rfl, fun w hS => by go_simp⟩) hHeld ?_
  simp only [Act.put, List.setIfInBounds_toArray, List.set_cons_zero, List.set_cons_succ]
  refine wpAnyH_take (i := 3) (oi := ⟨some 35, Op.load 3 (Operand.tmp 34), 3, _, _, none⟩) (v := .int .i64 t) rfl (by kernel_rfl) (by kernel_rfl) (by kernel_rfl) (fun _ _ _ h => h) (Or.inl ⟨by rfl, fun w hS => by obtain ⟨h1, h2, h3⟩ := hS; go_simp⟩) hHeld ?_
  simp only [Act.put, List.setIfInBounds_toArray, List.set_cons_zero, List.set_cons_succ]
  refine wpAnyH_take (i := 4) (oi := ⟨some 36, Op.move (Operand.tmp 7), 23, _, _, none⟩) (v := .slice (some ⟨gw, 0, none⟩) (body.length + 8) (body.length + 8)) rfl (by kernel_rfl) (by kernel_rfl) (by kernel_rfl) (fun _ _ _ h => h) (Or.inl ⟨by rfl, fun w hS => by go_simp⟩) hHeld ?_
  simp only [Act.put, List.setIfInBounds_toArray, List.set_cons_zero, List.set_cons_succ]
  refine wpAnyH_take (i := 5) (oi := ⟨some 37, Op.fieldAddr 31 (Operand.tmp 3) 2, 0, _, _, none⟩) (v := .pointer (some ⟨w.heap.size, 2, none⟩)) rfl (by kernel_rfl) (by kernel_rfl) (by kernel_rfl) (fun _ _ _ h => h) (Or.inl ⟨by rfl, fun w hS => by go_simp⟩) hHeld ?_
  simp only [Act.put, List.setIfInBounds_toArray, List.set_cons_zero, List.set_cons_succ]
  refine wpAnyH_take (i := 6) (oi := ⟨some 38, Op.load 23 (Operand.tmp 37), 23, _, _, none⟩) (v := .slice xa body.length xc) rfl (by kernel_rfl) (by kernel_rfl) (by kernel_rfl) (fun _ _ _ h => h) (Or.inl ⟨by rfl, fun w hS => by obtain ⟨h1, h2, h3⟩ := hS; go_simp⟩) hHeld ?_
  simp only [Act.put, List.setIfInBounds_toArray, List.set_cons_zero, List.set_cons_succ]
  refine wpAnyH_take (i := 7) (oi := ⟨some 39, Op.call { callee := Callee.builtin Builtin.len, args := #[Operand.tmp 38], argTypes := #[23] }, 3, _, _, none⟩) (v := .int .i64 (body.length : Int)) rfl (by kernel_rfl) (by kernel_rfl) (by kernel_rfl) (fun _ _ _ h => h) (Or.inl ⟨by rfl, fun w hS => by go_simp⟩) hHeld ?_
  simp only [Act.put, List.setIfInBounds_toArray, List.set_cons_zero, List.set_cons_succ]
  refine wpAnyH_take (i := 8) (oi := ⟨some 40, Op.slice 23 (Operand.tmp 36) none (some (Operand.tmp 39)) none, 23, _, _, none⟩) (v := .slice (some ⟨gw, 0, none⟩) body.length (body.length + 8)) rfl (by kernel_rfl) (by kernel_rfl) (by kernel_rfl) (fun _ _ _ h => h) (yieldsIf_slice (by rfl) 23 (Operand.tmp 36) (Operand.tmp 39) rfl _ _ _ rfl rfl hslw) hHeld ?_
  simp only [Act.put, List.setIfInBounds_toArray, List.set_cons_zero, List.set_cons_succ]
  refine wpAnyH_take (i := 9) (oi := ⟨some 41, Op.build 31 #[(0, Operand.tmp 33), (1, Operand.tmp 35), (2, Operand.tmp 40)], 31, _, _, none⟩) (v := .agg (env3 f t (.slice (some ⟨gw, 0, none⟩) body.length (body.length + 8)))) rfl (by kernel_rfl) (by kernel_rfl) (by kernel_rfl) (fun _ _ _ h => h) (Or.inl ⟨by rfl, fun w hS => by unfold env3; go_simp⟩) hHeld ?_
  simp only [Act.put, List.setIfInBounds_toArray, List.set_cons_zero, List.set_cons_succ]
  refine wpAnyH_ready (rs := [10]) (by kernel_rfl) (by simp) ?_
  refine AllReadyH.cons (o := ⟨some 8, Op.alloc 31, 0, _, _, none⟩) rfl (fun K hK => ?_) AllReadyH.nil
  rw [if_pos (by rfl)]
  refine wp_newA 31 rfl _ Try.new31E ?_
  have hB5 := hD4.alloc hD4.size (.cells (env3 0 0 (.slice none 0 0)) 31)
  have hN5 := Blk.new w4.drew 31 (env3 0 0 (.slice none 0 0))
  refine hK.out _ _ (HS4.out _ hB5) fun hHeld2 => ?_
  clear hK
  simp only [Act.put, List.setIfInBounds_toArray, List.set_cons_zero, List.set_cons_succ]
  generalize w4.drew.alloc (.cells (env3 0 0 (.slice none 0 0)) 31) = w5 at *
  obtain ⟨gm, hgm⟩ : ∃ gm, Keep (gm = w4.heap.size) := ⟨_, ⟨rfl⟩⟩
  rw [show w4.drew.heap.size = w4.heap.size from rfl, ← hgm.out] at hN5
  rw [show w4.drew.heap.size = w4.heap.size from rfl, ← hgm.out]
  refine wpAnyH_ready (rs := [11]) (by kernel_rfl) (by simp) ?_
  refine AllReadyH.cons (o := ⟨none, Op.store 31 (Operand.tmp 8) (Operand.tmp 41), 0, _, _, none⟩) rfl (fun K hK => ?_) AllReadyH.nil
  rw [if_pos (by rfl)]
  have hN6 := hN5.setRow (env3 f t (.slice (some ⟨gw, 0, none⟩) body.length (body.length + 8)))
  have hB6 := below_setRow hB5 (Nat.le_of_eq hgm.out.symm) (env3 f t (.slice (some ⟨gw, 0, none⟩) body.length (body.length + 8)))
  refine wp_store_row 31 (.tmp 8) (.tmp 41) rfl gm (env3 f t (.slice (some ⟨gw, 0, none⟩) body.length (body.length + 8))) rfl rfl 31 (env3 0 0 (.slice none 0 0)) hN5 (env3_info _ _ _) rfl (env3_one _ _ _ _ _) ?_
  refine hK.out _ _ (HS4.out _ hB6) fun _ => ?_
  clear hK
  refine wpAnyH_done (by kernel_rfl) ?_ _
  clear hHeld hHeld2
  have HM6 : Keep (Mk w (w5.setRow gm (env3 f t (.slice (some ⟨gw, 0, none⟩) body.length (body.length + 8)))) gk gw gm f t (.slice xa body.length xc) key body body.length) := ⟨⟨HX4.out.below hB6 HX4.out.lt, HK4.out.below hB6 HK4.out.lt, HW4.out.below hB6 HW4.out.lt, hN6, HB4.out.trans (hB6.mono HB4.out.size)⟩⟩
  have Hgm : Keep (gw < gm) := ⟨by rw [hgm.out]; exact HW4.out.lt⟩
  generalize w5.setRow gm (env3 f t (.slice (some ⟨gw, 0, none⟩) body.length (body.length + 8))) = w6 at *
  clear hB5 hN5 hB6 hN6 hD4 HS4 HX4 HK4 HW4 HB4 hgm
  obtain ⟨N, hN⟩ : ∃ N, Keep (N = w6.heap.size) := ⟨_, ⟨rfl⟩⟩
  have HN : Keep (gm < N) := ⟨by rw [hN.out]; exact HM6.out.mine.lt⟩
  obtain ⟨e0, e1, e2⟩ := env_cells HM6.out.env
  go_wp2_with fail
  refine (resP_ref _ _ key f t body w6 (HRk.out.below HM6.out.low) (HRb.out.below HM6.out.low) HKl.out HBl.out).mono ?_
  rintro e w7 ⟨wa, wn, wc, rfl, hb7, hO7, hf7⟩
  clear e0 e1 e2
  obtain ⟨W, hW⟩ : ∃ W, Keep (W = sealW key f t body) := ⟨_, ⟨rfl⟩⟩
  rw [← hW.out]
  obtain ⟨RL, hRL⟩ : ∃ RL, Keep (RL = resL key f t body) := ⟨_, ⟨rfl⟩⟩
  rw [← hRL.out] at hO7
  have HM7 := Keep.mk (HM6.out.next hb7)
  have HW7 := Keep.mk hO7
  have Hfw : Keep (∀ k, (Value.slice wa wn wc).ownBlock = some k → N ≤ k) := ⟨fun k h => by rw [hN.out]; exact hf7 k h⟩
  have HN7 : Keep (N ≤ w7.heap.size) := ⟨by rw [hN.out]; exact hb7.size⟩
  clear hb7 hO7 hf7 HM6 hN
  have hD : Below w7.heap.size w7 w7.drew := (Below.refl _ _).drew
  have HS : Keep (∀ wx, Below w7.heap.size w7 wx → wx.cell? ⟨gm, 0, none⟩ = some (.int .i64 f) ∧ wx.cell? ⟨gm, 1, none⟩ = some (.int .i64 t) ∧ wx.cell? ⟨gm, 2, none⟩ = some (.slice (some ⟨gw, 0, none⟩) body.length (body.length + 8))) := ⟨fun wx hx => env_cells (HM7.out.mine.below hx HM7.out.mine.lt)⟩
  go_wp2_with fail
  refine wp_region_held_drew (S := fun wx => wx.cell? ⟨gm, 0, none⟩ = some (.int .i64 f) ∧ wx.cell? ⟨gm, 1, none⟩ = some (.int .i64 t) ∧ wx.cell? ⟨gm, 2, none⟩ = some (.slice (some ⟨gw, 0, none⟩) body.length (body.length + 8))) (by kernel_rfl) (HS.out _ hD) (fun hHeld => ?_)
  refine wpAnyH_take (i := 0) (oi := ⟨some 49, Op.move (Operand.tmp 6), 23, _, _, none⟩) (v := .slice (some ⟨gk, 0, none⟩) (key.length + 8) (key.length + 8)) rfl (by kernel_rfl) (by kernel_rfl) (by kernel_rfl) (fun _ _ _ h => h) (Or.inl ⟨by rfl, fun w hS => by go_simp⟩) hHeld ?_
  simp only [Act.put, List.setIfInBounds_toArray, List.set_cons_zero, List.set_cons_succ]
  refine wpAnyH_take (i := 1) (oi := ⟨some 50, Op.move (Operand.tmp 0), 23, _, _, none⟩) (v := .slice ka key.length kc) rfl (by kernel_rfl) (by kernel_rfl) (by kernel_rfl) (fun _ _ _ h => h) (Or.inl ⟨by rfl, fun w hS => by go_simp⟩) hHeld ?_
  simp only [Act.put, List.setIfInBounds_toArray, List.set_cons_zero, List.set_cons_succ]
  refine wpAnyH_take (i := 2) (oi := ⟨some 51, Op.call { callee := Callee.builtin Builtin.len, args := #[Operand.tmp 50], argTypes := #[23] }, 3, _, _, none⟩) (v := .int .i64 (key.length : Int)) rfl (by kernel_rfl) (by kernel_rfl) (by kernel_rfl) (fun _ _ _ h => h) (Or.inl ⟨by rfl, fun w hS => by go_simp⟩) hHeld ?_
  simp only [Act.put, List.setIfInBounds_toArray, List.set_cons_zero, List.set_cons_succ]
  refine wpAnyH_take (i := 3) (oi := ⟨some 52, Op.slice 23 (Operand.tmp 49) none (some (Operand.tmp 51)) none, 23, _, _, none⟩) (v := .slice (some ⟨gk, 0, none⟩) key.length (key.length + 8)) rfl (by kernel_rfl) (by kernel_rfl) (by kernel_rfl) (fun _ _ _ h => h) (yieldsIf_slice (by rfl) 23 (Operand.tmp 49) (Operand.tmp 51) rfl _ _ _ rfl rfl hslk) hHeld ?_
  simp only [Act.put, List.setIfInBounds_toArray, List.set_cons_zero, List.set_cons_succ]
  refine wpAnyH_take (i := 4) (oi := ⟨some 53, Op.load 31 (Operand.tmp 8), 31, _, _, none⟩) (v := .agg #[.int .i64 f, .int .i64 t, .slice (some ⟨gw, 0, none⟩) body.length (body.length + 8)]) rfl (by kernel_rfl) (by kernel_rfl) (by kernel_rfl) (fun _ _ _ h => h) (Or.inl ⟨by rfl, fun w hS => by obtain ⟨h1, h2, h3⟩ := hS; go_simp⟩) hHeld ?_
  simp only [Act.put, List.setIfInBounds_toArray, List.set_cons_zero, List.set_cons_succ]
  refine wpAnyH_ready (rs := [5]) (by kernel_rfl) (by simp) ?_
  refine AllReadyH.cons (o := ⟨some 54, Op.call { callee := Callee.value (Operand.func 15), args := #[Operand.tmp 52, Operand.tmp 53], argTypes := #[23, 31] }, 33, _, _, none⟩) rfl (fun K hK => ?_) AllReadyH.nil
  rw [if_pos (by rfl)]
  refine wp_callF 15 _ _ rfl Try.enter15 #[.slice (some ⟨gk, 0, none⟩) key.length (key.length + 8), .agg #[.int .i64 f, .int .i64 t, .slice (some ⟨gw, 0, none⟩) body.length (body.length + 8)]] (by simp [Act.eval]) (fun vz wz => ∃ a n c, vz = .tuple #[.slice a n c, .int .i64 W] ∧ Below w7.heap.size w7 wz ∧ OwnT wz (.slice a n c) RL ∧ ∀ k, (Value.slice a n c).ownBlock = some k → w7.heap.size ≤ k) ?_ ?_
  · refine (resP_prog _ _ key f t body w7.drew ((HM7.out.k.below hD HM7.out.k.lt).row _ (by omega)) ((HM7.out.d.below hD HM7.out.d.lt).row _ (by omega)) HKl.out HBl.out HBy.out).mono ?_
    rintro e wz ⟨a, n, c, rfl, hbz, hOz, hfz⟩
    exact ⟨_, rfl, a, n, c, by rw [hW.out], hD.trans (hbz.mono hD.size), by rw [hRL.out]; exact hOz, hfz⟩
  rintro vz w8 ⟨xa2, xn2, xc2, rfl, hbo, hOo, hfo⟩
  refine hK.out _ _ (HS.out _ hbo) fun hHeld2 => ?_
  clear hK
  simp only [Act.put, List.setIfInBounds_toArray, List.set_cons_zero, List.set_cons_succ]
  refine wpAnyH_take (i := 6) (oi := ⟨some 48, Op.move (Operand.tmp 54), 33, _, _, none⟩) (v := .tuple #[.slice xa2 xn2 xc2, .int .i64 W]) rfl (by kernel_rfl) (by kernel_rfl) (by kernel_rfl) (fun _ _ _ h => h) (Or.inl ⟨by rfl, fun w hS => by go_simp⟩) hHeld2 ?_
  simp only [Act.put, List.setIfInBounds_toArray, List.set_cons_zero, List.set_cons_succ]
  refine wpAnyH_take (i := 7) (oi := ⟨some 55, Op.extract (Operand.tmp 48) 0, 23, _, _, none⟩) (v := .slice xa2 xn2 xc2) rfl (by kernel_rfl) (by kernel_rfl) (by kernel_rfl) (fun _ _ _ h => h) (Or.inl ⟨by rfl, fun w hS => by go_simp⟩) hHeld2 ?_
  simp only [Act.put, List.setIfInBounds_toArray, List.set_cons_zero, List.set_cons_succ]
  refine wpAnyH_take (i := 8) (oi := ⟨some 56, Op.extract (Operand.tmp 48) 1, 32, _, _, none⟩) (v := .int .i64 W) rfl (by kernel_rfl) (by kernel_rfl) (by kernel_rfl) (fun _ _ _ h => h) (Or.inl ⟨by rfl, fun w hS => by go_simp⟩) hHeld2 ?_
  simp only [Act.put, List.setIfInBounds_toArray, List.set_cons_zero, List.set_cons_succ]
  refine wpAnyH_take (i := 9) (oi := ⟨some 11, Op.assign (Operand.tmp 55), 23, _, _, none⟩) (v := .slice xa2 xn2 xc2) rfl (by kernel_rfl) (by kernel_rfl) (by kernel_rfl) (fun _ _ _ h => h) (Or.inl ⟨by rfl, fun w hS => by go_simp⟩) hHeld2 ?_
  simp only [Act.put, List.setIfInBounds_toArray, List.set_cons_zero, List.set_cons_succ]
  refine wpAnyH_take (i := 10) (oi := ⟨some 12, Op.assign (Operand.tmp 56), 32, _, _, none⟩) (v := .int .i64 W) rfl (by kernel_rfl) (by kernel_rfl) (by kernel_rfl) (fun _ _ _ h => h) (Or.inl ⟨by rfl, fun w hS => by go_simp⟩) hHeld2 ?_
  simp only [Act.put, List.setIfInBounds_toArray, List.set_cons_zero, List.set_cons_succ]
  refine wpAnyH_done (by kernel_rfl) ?_ _
  clear hHeld hHeld2 hD HS
  have HM8 := Keep.mk (HM7.out.next hbo)
  have HX8 := Keep.mk hOo
  have HW8 := Keep.mk (HW7.out.grown (Grown.below (S := fun _ => False) hbo) fun _ _ h => h)
  have Hfx : Keep (∀ k, (Value.slice xa2 xn2 xc2).ownBlock = some k → N ≤ k) := ⟨fun k h => Nat.le_trans HN7.out (hfo k h)⟩
  have HN8 : Keep (N ≤ w8.heap.size) := ⟨Nat.le_trans HN7.out hbo.size⟩
  clear hbo hOo hfo HM7 HW7 HN7
  have hD : Below w8.heap.size w8 w8.drew := (Below.refl _ _).drew
  have HS : Keep (∀ wx, Below w8.heap.size w8 wx → wx.cell? ⟨gm, 0, none⟩ = some (.int .i64 f) ∧ wx.cell? ⟨gm, 1, none⟩ = some (.int .i64 t) ∧ wx.cell? ⟨gm, 2, none⟩ = some (.slice (some ⟨gw, 0, none⟩) body.length (body.length + 8))) := ⟨fun wx hx => env_cells (HM8.out.mine.below hx HM8.out.mine.lt)⟩
  go_wp2_with fail
  refine wp_region_held_drew (S := fun wx => wx.cell? ⟨gm, 0, none⟩ = some (.int .i64 f) ∧ wx.cell? ⟨gm, 1, none⟩ = some (.int .i64 t) ∧ wx.cell? ⟨gm, 2, none⟩ = some (.slice (some ⟨gw, 0, none⟩) body.length (body.length + 8))) (by kernel_rfl) (HS.out _ hD) (fun hHeld => ?_)
  refine wpAnyH_take (i := 0) (oi := ⟨some 58, Op.move (Operand.tmp 6), 23, _, _, none⟩) (v := .slice (some ⟨gk, 0, none⟩) (key.length + 8) (key.length + 8)) rfl (by kernel_rfl) (by kernel_rfl) (by kernel_rfl) (fun _ _ _ h => h) (Or.inl ⟨by rfl, fun w hS => by go_simp⟩) hHeld ?_
  simp only [Act.put, List.setIfInBounds_toArray, List.set_cons_zero, List.set_cons_succ]
  refine wpAnyH_take (i := 1) (oi := ⟨some 59, Op.move (Operand.tmp 0), 23, _, _, none⟩) (v := .slice ka key.length kc) rfl (by kernel_rfl) (by kernel_rfl) (by kernel_rfl) (fun _ _ _ h => h) (Or.inl ⟨by rfl, fun w hS => by go_simp⟩) hHeld ?_
  simp only [Act.put, List.setIfInBounds_toArray, List.set_cons_zero, List.set_cons_succ]
  refine wpAnyH_take (i := 2) (oi := ⟨some 60, Op.call { callee := Callee.builtin Builtin.len, args := #[Operand.tmp 59], argTypes := #[23] }, 3, _, _, none⟩) (v := .int .i64 (key.length : Int)) rfl (by kernel_rfl) (by kernel_rfl) (by kernel_rfl) (fun _ _ _ h => h) (Or.inl ⟨by rfl, fun w hS => by go_simp⟩) hHeld ?_
  simp only [Act.put, List.setIfInBounds_toArray, List.set_cons_zero, List.set_cons_succ]
  refine wpAnyH_take (i := 3) (oi := ⟨some 61, Op.slice 23 (Operand.tmp 58) none (some (Operand.tmp 60)) none, 23, _, _, none⟩) (v := .slice (some ⟨gk, 0, none⟩) key.length (key.length + 8)) rfl (by kernel_rfl) (by kernel_rfl) (by kernel_rfl) (fun _ _ _ h => h) (yieldsIf_slice (by rfl) 23 (Operand.tmp 58) (Operand.tmp 60) rfl _ _ _ rfl rfl hslk) hHeld ?_
  simp only [Act.put, List.setIfInBounds_toArray, List.set_cons_zero, List.set_cons_succ]
  refine wpAnyH_take (i := 4) (oi := ⟨some 62, Op.load 31 (Operand.tmp 8), 31, _, _, none⟩) (v := .agg #[.int .i64 f, .int .i64 t, .slice (some ⟨gw, 0, none⟩) body.length (body.length + 8)]) rfl (by kernel_rfl) (by kernel_rfl) (by kernel_rfl) (fun _ _ _ h => h) (Or.inl ⟨by rfl, fun w hS => by obtain ⟨h1, h2, h3⟩ := hS; go_simp⟩) hHeld ?_
  simp only [Act.put, List.setIfInBounds_toArray, List.set_cons_zero, List.set_cons_succ]
  refine wpAnyH_ready (rs := [5]) (by kernel_rfl) (by simp) ?_
  refine AllReadyH.cons (o := ⟨some 63, Op.call { callee := Callee.value (Operand.func 15), args := #[Operand.tmp 61, Operand.tmp 62], argTypes := #[23, 31] }, 33, _, _, none⟩) rfl (fun K hK => ?_) AllReadyH.nil
  rw [if_pos (by rfl)]
  refine wp_callF 15 _ _ rfl Try.enter15 #[.slice (some ⟨gk, 0, none⟩) key.length (key.length + 8), .agg #[.int .i64 f, .int .i64 t, .slice (some ⟨gw, 0, none⟩) body.length (body.length + 8)]] (by simp [Act.eval]) (fun vz wz => ∃ a n c, vz = .tuple #[.slice a n c, .int .i64 W] ∧ Below w8.heap.size w8 wz ∧ OwnT wz (.slice a n c) RL ∧ ∀ k, (Value.slice a n c).ownBlock = some k → w8.heap.size ≤ k) ?_ ?_
  · refine (resP_prog _ _ key f t body w8.drew ((HM8.out.k.below hD HM8.out.k.lt).row _ (by omega)) ((HM8.out.d.below hD HM8.out.d.lt).row _ (by omega)) HKl.out HBl.out HBy.out).mono ?_
    rintro e wz ⟨a, n, c, rfl, hbz, hOz, hfz⟩
    exact ⟨_, rfl, a, n, c, by rw [hW.out], hD.trans (hbz.mono hD.size), by rw [hRL.out]; exact hOz, hfz⟩
  rintro vz w9 ⟨ya, yn, yc, rfl, hbo, hOo, hfo⟩
  refine hK.out _ _ (HS.out _ hbo) fun hHeld2 => ?_
  clear hK
  simp only [Act.put, List.setIfInBounds_toArray, List.set_cons_zero, List.set_cons_succ]
  refine wpAnyH_take (i := 6) (oi := ⟨some 57, Op.move (Operand.tmp 63), 33, _, _, none⟩) (v := .tuple #[.slice ya yn yc, .int .i64 W]) rfl (by kernel_rfl) (by kernel_rfl) (by kernel_rfl) (fun _ _ _ h => h) (Or.inl ⟨by rfl, fun w hS => by go_simp⟩) hHeld2 ?_
  simp only [Act.put, List.setIfInBounds_toArray, List.set_cons_zero, List.set_cons_succ]
  refine wpAnyH_take (i := 7) (oi := ⟨some 64, Op.extract (Operand.tmp 57) 0, 23, _, _, none⟩) (v := .slice ya yn yc) rfl (by kernel_rfl) (by kernel_rfl) (by kernel_rfl) (fun _ _ _ h => h) (Or.inl ⟨by rfl, fun w hS => by go_simp⟩) hHeld2 ?_
  simp only [Act.put, List.setIfInBounds_toArray, List.set_cons_zero, List.set_cons_succ]
  refine wpAnyH_take (i := 8) (oi := ⟨some 65, Op.extract (Operand.tmp 57) 1, 32, _, _, none⟩) (v := .int .i64 W) rfl (by kernel_rfl) (by kernel_rfl) (by kernel_rfl) (fun _ _ _ h => h) (Or.inl ⟨by rfl, fun w hS => by go_simp⟩) hHeld2 ?_
  simp only [Act.put, List.setIfInBounds_toArray, List.set_cons_zero, List.set_cons_succ]
  refine wpAnyH_take (i := 9) (oi := ⟨some 13, Op.assign (Operand.tmp 64), 23, _, _, none⟩) (v := .slice ya yn yc) rfl (by kernel_rfl) (by kernel_rfl) (by kernel_rfl) (fun _ _ _ h => h) (Or.inl ⟨by rfl, fun w hS => by go_simp⟩) hHeld2 ?_
  simp only [Act.put, List.setIfInBounds_toArray, List.set_cons_zero, List.set_cons_succ]
  refine wpAnyH_take (i := 10) (oi := ⟨some 14, Op.assign (Operand.tmp 65), 32, _, _, none⟩) (v := .int .i64 W) rfl (by kernel_rfl) (by kernel_rfl) (by kernel_rfl) (fun _ _ _ h => h) (Or.inl ⟨by rfl, fun w hS => by go_simp⟩) hHeld2 ?_
  simp only [Act.put, List.setIfInBounds_toArray, List.set_cons_zero, List.set_cons_succ]
  refine wpAnyH_done (by kernel_rfl) ?_ _
  clear hHeld hHeld2 hD HS
  have HM9 := Keep.mk (HM8.out.next hbo)
  have HY9 := Keep.mk hOo
  have HX9 := Keep.mk (HX8.out.grown (Grown.below (S := fun _ => False) hbo) fun _ _ h => h)
  have HW9 := Keep.mk (HW8.out.grown (Grown.below (S := fun _ => False) hbo) fun _ _ h => h)
  have Hfy : Keep (∀ k, (Value.slice ya yn yc).ownBlock = some k → N ≤ k ∧ (Value.slice xa2 xn2 xc2).ownBlock ≠ some k) := ⟨fun k h => ⟨Nat.le_trans HN8.out (hfo k h), fun e => by have h1 := HX8.out.lt k e; have h2 := hfo k h; omega⟩⟩
  have HN9 : Keep (N ≤ w9.heap.size) := ⟨Nat.le_trans HN8.out hbo.size⟩
  clear hbo hOo hfo HM8 HX8 HW8 HN8
  go_wp2_with fail
  refine (kept3_any gk _ key w9 HM9.out.k (HRk.out.below HM9.out.low) (by have := HKl.out; omega)).mono ?_
  rintro e w10 ⟨rfl, q, hq⟩
  have hbo : Below w9.heap.size w9 w10 := by rw [hq]; exact ⟨rfl, rfl, rfl, Nat.le_refl _, fun _ _ => rfl⟩
  clear hq
  have HM10 := Keep.mk (HM9.out.next hbo)
  have HX10 := Keep.mk (HX9.out.grown (Grown.below (S := fun _ => False) hbo) fun _ _ h => h)
  have HY10 := Keep.mk (HY9.out.grown (Grown.below (S := fun _ => False) hbo) fun _ _ h => h)
  have HW10 := Keep.mk (HW9.out.grown (Grown.below (S := fun _ => False) hbo) fun _ _ h => h)
  have HN10 : Keep (N ≤ w10.heap.size) := ⟨Nat.le_trans HN9.out hbo.size⟩
  clear hbo HM9 HX9 HY9 HW9 HN9
  have e2 := (env_cells HM10.out.env).2.2
  go_wp2_with fail
  refine (kept3_any gw _ body w10 HM10.out.d (HRb.out.below HM10.out.low) (by have := HBl.out; omega)).mono ?_
  rintro e w11 ⟨rfl, q, hq⟩
  clear e2
  have hbo : Below w10.heap.size w10 w11 := by rw [hq]; exact ⟨rfl, rfl, rfl, Nat.le_refl _, fun _ _ => rfl⟩
  clear hq
  have HM11 := Keep.mk (HM10.out.next hbo)
  have HX11 := Keep.mk (HX10.out.grown (Grown.below (S := fun _ => False) hbo) fun _ _ h => h)
  have HY11 := Keep.mk (HY10.out.grown (Grown.below (S := fun _ => False) hbo) fun _ _ h => h)
  have HW11 := Keep.mk (HW10.out.grown (Grown.below (S := fun _ => False) hbo) fun _ _ h => h)
  have HN11 : Keep (N ≤ w11.heap.size) := ⟨Nat.le_trans HN10.out hbo.size⟩
  clear hbo HM10 HX10 HY10 HW10 HN10
  go_wp2_with fail
  refine (same3_any _ _ RL RL w11 HX11.out.row HW11.out.row true (by rw [beq_toListBytes, beq_self_eq_true])).mono ?_
  rintro e wq ⟨rfl, hq⟩
  rw [hq]
  clear hq
  go_wp2_with fail
  refine (same3_any _ _ RL RL w11 HY11.out.row HW11.out.row true (by rw [beq_toListBytes, beq_self_eq_true])).mono ?_
  rintro e wq ⟨rfl, hq⟩
  rw [hq]
  clear hq
  go_wp2_with fail
  refine (turn3_any gk key w11 HM11.out.k (by have := HKl.out; omega)).mono ?_
  rintro e w12 ⟨rfl, hK, hg⟩
  have HM12 := Keep.mk (HM11.out.turnK hg hK Hgk.out Hgkw.out)
  have Hlt : Keep (gk < N ∧ gw < N) := ⟨by have h1 := Hgkw.out; have h2 := Hgm.out; have h3 := HN.out; omega⟩
  have HX12 := Keep.mk (HX11.out.grown hg fun k h e => by have h1 := Hfx.out k h; have h2 := Hlt.out; omega)
  have HY12 := Keep.mk (HY11.out.grown hg fun k h e => by have h1 := (Hfy.out k h).1; have h2 := Hlt.out; omega)
  have HW12 := Keep.mk (HW11.out.grown hg fun k h e => by have h1 := Hfw.out k h; have h2 := Hlt.out; omega)
  have HN12 : Keep (N ≤ w12.heap.size) := ⟨Nat.le_trans HN11.out hg.size⟩
  clear hK hg HM11 HX11 HY11 HW11 HN11
  go_wp2_with fail
  refine (turn3_any gw body w12 HM12.out.d (by have := HBl.out; omega)).mono ?_
  rintro e w13 ⟨rfl, hK, hg⟩
  have HM13 := Keep.mk (HM12.out.turnD hg hK Hgk.out Hgkw.out)
  have HX13 := Keep.mk (HX12.out.grown hg fun k h e => by have h1 := Hfx.out k h; have h2 := Hlt.out; omega)
  have HY13 := Keep.mk (HY12.out.grown hg fun k h e => by have h1 := (Hfy.out k h).1; have h2 := Hlt.out; omega)
  have HW13 := Keep.mk (HW12.out.grown hg fun k h e => by have h1 := Hfw.out k h; have h2 := Hlt.out; omega)
  have HN13 : Keep (N ≤ w13.heap.size) := ⟨Nat.le_trans HN12.out hg.size⟩
  clear hK hg HM12 HX12 HY12 HW12 HN12
  obtain ⟨k2, hk2⟩ : ∃ k2, Keep (k2 = tnL key) := ⟨_, ⟨rfl⟩⟩
  obtain ⟨b2, hb2⟩ : ∃ b2, Keep (b2 = tnL body) := ⟨_, ⟨rfl⟩⟩
  rw [← hk2.out, ← hb2.out] at HM13
  have Hk2 : Keep (k2.length = key.length) := ⟨by rw [hk2.out, tnL_len]⟩
  have Hb2 : Keep (b2.length = body.length) := ⟨by rw [hb2.out, tnL_len]⟩
  have Hby2 : Keep (Byts b2) := ⟨by rw [hb2.out]; exact tnL_byts _⟩
  have HRk2 : Keep (∀ wx, Wd wx gk k2 → RowAt wx (.slice (some ⟨gk, 0, none⟩) key.length (key.length + 8)) k2) := ⟨fun wx h => by rw [← Hk2.out]; exact h.row _ (by omega)⟩
  have HRb2 : Keep (∀ wx, Wd wx gw b2 → RowAt wx (.slice (some ⟨gw, 0, none⟩) body.length (body.length + 8)) b2) := ⟨fun wx h => by rw [← Hb2.out]; exact h.row _ (by omega)⟩
  clear hk2 hb2
  have hD : Below w13.heap.size w13 w13.drew := (Below.refl _ _).drew
  have HS : Keep (∀ wx, Below w13.heap.size w13 wx → wx.cell? ⟨w.heap.size, 0, none⟩ = some (.int .i64 f) ∧ wx.cell? ⟨w.heap.size, 1, none⟩ = some (.int .i64 t) ∧ wx.cell? ⟨gm, 2, none⟩ = some (.slice (some ⟨gw, 0, none⟩) body.length (body.length + 8))) := ⟨fun wx hx => ⟨(env_cells (HM13.out.env.below hx HM13.out.env.lt)).1, (env_cells (HM13.out.env.below hx HM13.out.env.lt)).2.1, (env_cells (HM13.out.mine.below hx HM13.out.mine.lt)).2.2⟩⟩
  have HRw : Keep (∀ wx, Below w13.heap.size w13 wx → RowAt wx (.slice (some ⟨gw, 0, none⟩) body.length (body.length + 8)) b2) := ⟨fun wx hx => HRb2.out wx (HM13.out.d.below hx HM13.out.d.lt)⟩
  have Hb2l : Keep (([] : List Int).length + b2.length ≤ 140737488355328) := ⟨by rw [Hb2.out]; have := HBl.out; simp only [List.length_nil]; omega⟩
  go_wp2_with fail
  try simp only [Act.put, List.setIfInBounds_toArray, List.set_cons_zero, List.set_cons_succ]
  go_cut [19] from 111 to 119 (fun sx wx => ∃ g9 ta tn tc, sx = ptr g9 ∧ Blk wx g9 31 (env3 f t (.slice ta tn tc)) ∧ OwnT wx (.slice ta tn tc) b2 ∧ Below w13.heap.size w13 wx)
  case first =>
    refine wp_region_held_drew (S := fun wx => wx.cell? ⟨w.heap.size, 0, none⟩ = some (.int .i64 f) ∧ wx.cell? ⟨w.heap.size, 1, none⟩ = some (.int .i64 t) ∧ wx.cell? ⟨gm, 2, none⟩ = some (.slice (some ⟨gw, 0, none⟩) body.length (body.length + 8))) (by kernel_rfl) (HS.out _ hD) (fun hHeld => ?_)
    refine wpAnyH_take (i := 0) (oi := ⟨some 111, Op.fieldAddr 31 (Operand.tmp 3) 0, 0, _, _, none⟩) (v := .pointer (some ⟨w.heap.size, 0, none⟩)) rfl (by kernel_rfl) (by kernel_rfl) (by kernel_rfl) (fun _ _ _ h => h) (Or.inl ⟨by rfl, fun w hS => by go_simp⟩) hHeld ?_
    simp only [Act.put, List.setIfInBounds_toArray, List.set_cons_zero, List.set_cons_succ]
    refine wpAnyH_take (i := 1) (oi := ⟨some 112, Op.load 3 (Operand.tmp 111), 3, _, _, none⟩) (v := .int .i64 f) rfl (by kernel_rfl) (by kernel_rfl) (by kernel_rfl) (fun _ _ _ h => h) (Or.inl ⟨by rfl, fun w hS => by obtain ⟨h1, h2, h3⟩ := hS; go_simp⟩) hHeld ?_
    simp only [Act.put, List.setIfInBounds_toArray, List.set_cons_zero, List.set_cons_succ]
    refine wpAnyH_take (i := 2) (oi := ⟨some 113, Op.fieldAddr 31 (Operand.tmp 3) 1, 0, _, _, none⟩) (v := .pointer (some ⟨w.heap.size, 1, none⟩)) rfl (by kernel_rfl) (by kernel_rfl) (by kernel_rfl) (fun _ _ _ h => h) (Or.inl ⟨by rfl, fun w hS => by go_simp⟩) hHeld ?_
    simp only [Act.put, List.setIfInBounds_toArray, List.set_cons_zero, List.set_cons_succ]
    refine wpAnyH_take (i := 3) (oi := ⟨some 114, Op.load 3 (Operand.tmp 113), 3, _, _, none⟩) (v := .int .i64 t) rfl (by kernel_rfl) (by kernel_rfl) (by kernel_rfl) (fun _ _ _ h => h) (Or.inl ⟨by rfl, fun w hS => by obtain ⟨h1, h2, h3⟩ := hS; go_simp⟩) hHeld ?_
    simp only [Act.put, List.setIfInBounds_toArray, List.set_cons_zero, List.set_cons_succ]
    refine wpAnyH_take (i := 5) (oi := ⟨some 116, Op.fieldAddr 31 (Operand.tmp 8) 2, 0, _, _, none⟩) (v := .pointer (some ⟨gm, 2, none⟩)) rfl (by kernel_rfl) (by kernel_rfl) (by kernel_rfl) (fun _ _ _ h => h) (Or.inl ⟨by rfl, fun w hS => by go_simp⟩) hHeld ?_
    simp only [Act.put, List.setIfInBounds_toArray, List.set_cons_zero, List.set_cons_succ]
    refine wpAnyH_take (i := 6) (oi := ⟨some 117, Op.load 23 (Operand.tmp 116), 23, _, _, none⟩) (v := .slice (some ⟨gw, 0, none⟩) body.length (body.length + 8)) rfl (by kernel_rfl) (by kernel_rfl) (by kernel_rfl) (fun _ _ _ h => h) (Or.inl ⟨by rfl, fun w hS => by obtain ⟨h1, h2, h3⟩ := hS; go_simp⟩) hHeld ?_
    simp only [Act.put, List.setIfInBounds_toArray, List.set_cons_zero, List.set_cons_succ]
    generalize w13.drew = wd at *
    refine wpAnyH_ready (rs := [4, 9]) (by kernel_rfl) (by simp) ?_
    refine AllReadyH.cons (o := ⟨some 115, Op.buildSlice 23 0 #[], 23, _, _, none⟩) rfl (fun K hK => ?_) (AllReadyH.cons (o := ⟨some 19, Op.alloc 31, 0, _, _, none⟩) rfl (fun K hK => ?_) AllReadyH.nil)
    all_goals rw [if_pos (by rfl)]
    · refine wp_bs 23 0 #[] rfl #[] (by simp) (.slice (some ⟨wd.heap.size, 0, none⟩) 0 0) (wd.alloc (.cells #[] 5)) (Try.bs0 _) ?_
      have hr1 := hD.alloc hD.size (.cells #[] 5)
      have hOe := own_empty (wd.alloc (.cells #[] 5)) wd.heap.size (Blk.new wd 5 #[])
      have hge : w13.heap.size ≤ wd.heap.size := hD.size
      refine hK.out _ _ (HS.out _ hr1) fun hHeld1 => ?_
      clear hK
      simp only [Act.put, List.setIfInBounds_toArray, List.set_cons_zero, List.set_cons_succ]
      generalize wd.alloc (.cells #[] 5) = wr1 at *
      obtain ⟨ge, hge2⟩ : ∃ ge, Keep (ge = wd.heap.size) := ⟨_, ⟨rfl⟩⟩
      rw [← hge2.out] at hOe hge ⊢
      refine wpAnyH_ready (rs := [7, 9]) (by kernel_rfl) (by simp) ?_
      refine AllReadyH.cons (o := ⟨some 118, Op.call { callee := Callee.builtin Builtin.append, args := #[Operand.tmp 115, Operand.tmp 117], argTypes := #[23, 23] }, 23, _, _, none⟩) rfl (fun K hK => ?_) (AllReadyH.cons (o := ⟨some 19, Op.alloc 31, 0, _, _, none⟩) rfl (fun K hK => ?_) AllReadyH.nil)
      all_goals rw [if_pos (by rfl)]
      · refine wp_app (.tmp 115) (.tmp 117) rfl (.slice (some ⟨ge, 0, none⟩) 0 0) (.slice (some ⟨gw, 0, none⟩) body.length (body.length + 8)) [] b2 rfl rfl hOe (HRw.out _ hr1) Hb2l.out ?_
        intro va wr2 hp
        rw [List.nil_append] at hp
        have hr2 : Below w13.heap.size w13 wr2 := hr1.trans ((grow_free (B := w13.heap.size) ⟨ge, rfl, hge⟩ hr1.size hp).2)
        have hO := hp.1.tail
        obtain ⟨ta, tn, tc, rfl⟩ := hO.sl
        refine hK.out _ _ (HS.out _ hr2) fun hHeld2 => ?_
        clear hK hp
        simp only [Act.put, List.setIfInBounds_toArray, List.set_cons_zero, List.set_cons_succ]
        refine wpAnyH_take (i := 8) (oi := ⟨some 119, Op.build 31 #[(0, Operand.tmp 112), (1, Operand.tmp 114), (2, Operand.tmp 118)], 31, _, _, none⟩) (v := .agg (env3 f t (.slice ta tn tc))) rfl (by kernel_rfl) (by kernel_rfl) (by kernel_rfl) (fun _ _ _ h => h) (Or.inl ⟨by rfl, fun w hS => by unfold env3; go_simp⟩) hHeld2 ?_
        simp only [Act.put, List.setIfInBounds_toArray, List.set_cons_zero, List.set_cons_succ]
        refine wpAnyH_ready (rs := [9]) (by kernel_rfl) (by simp) ?_
        refine AllReadyH.cons (o := ⟨some 19, Op.alloc 31, 0, _, _, none⟩) rfl (fun K hK => ?_) AllReadyH.nil
        rw [if_pos (by rfl)]
        refine wp_newA 31 rfl _ Try.new31E ?_
        have hr3 := hr2.alloc hr2.size (.cells (env3 0 0 (.slice none 0 0)) 31)
        have hN9 := Blk.new wr2 31 (env3 0 0 (.slice none 0 0))
        have hg9 : w13.heap.size ≤ wr2.heap.size := hr2.size
        replace hO := hO.box (.cells (env3 0 0 (.slice none 0 0)) 31)
        refine hK.out _ _ (HS.out _ hr3) fun hHeld3 => ?_
        clear hK
        simp only [Act.put, List.setIfInBounds_toArray, List.set_cons_zero, List.set_cons_succ]
        generalize wr2.alloc (.cells (env3 0 0 (.slice none 0 0)) 31) = wr3 at *
        obtain ⟨g9, hg92⟩ : ∃ g9, Keep (g9 = wr2.heap.size) := ⟨_, ⟨rfl⟩⟩
        rw [← hg92.out] at hN9 hg9 ⊢
        refine wpAnyH_ready (rs := [10]) (by kernel_rfl) (by simp) ?_
        refine AllReadyH.cons (o := ⟨none, Op.store 31 (Operand.tmp 19) (Operand.tmp 119), 0, _, _, none⟩) rfl (fun K hK => ?_) AllReadyH.nil
        rw [if_pos (by rfl)]
        refine wp_store_row 31 (.tmp 19) (.tmp 119) rfl g9 (env3 f t (.slice ta tn tc)) rfl rfl 31 (env3 0 0 (.slice none 0 0)) hN9 (env3_info _ _ _) rfl (env3_one _ _ _ _ _) ?_
        have hNz := hN9.setRow (env3 f t (.slice ta tn tc))
        have hBz := below_setRow hr3 hg9 (env3 f t (.slice ta tn tc))
        have hOz : OwnT (wr3.setRow g9 (env3 f t (.slice ta tn tc))) (.slice ta tn tc) b2 := hO.grown (Grown.setRow (S := fun k => k = g9) _ _ _ fun _ => rfl) fun k hk e => (hO.ne hN9 (by decide)) (by rw [hk, e])
        refine hK.out _ _ (HS.out _ hBz) fun _ => ?_
        clear hK
        refine wpAnyH_done (by kernel_rfl) ?_ _
        go_wp2_with fail
        go_meet
        case rel => exact ⟨g9, ta, tn, tc, rfl, hNz, hOz, hBz⟩
      · refine wp_newA 31 rfl _ Try.new31E ?_
        have hr4 := hr1.alloc hr1.size (.cells (env3 0 0 (.slice none 0 0)) 31)
        have hN9 := Blk.new wr1 31 (env3 0 0 (.slice none 0 0))
        have hg9 : w13.heap.size ≤ wr1.heap.size := hr1.size
        replace hOe := hOe.box (.cells (env3 0 0 (.slice none 0 0)) 31)
        refine hK.out _ _ (HS.out _ hr4) fun hHeld4 => ?_
        clear hK
        simp only [Act.put, List.setIfInBounds_toArray, List.set_cons_zero, List.set_cons_succ]
        generalize wr1.alloc (.cells (env3 0 0 (.slice none 0 0)) 31) = wr4 at *
        obtain ⟨g9, hg92⟩ : ∃ g9, Keep (g9 = wr1.heap.size) := ⟨_, ⟨rfl⟩⟩
        rw [← hg92.out] at hN9 hg9 ⊢
        refine wpAnyH_ready (rs := [7]) (by kernel_rfl) (by simp) ?_
        refine AllReadyH.cons (o := ⟨some 118, Op.call { callee := Callee.builtin Builtin.append, args := #[Operand.tmp 115, Operand.tmp 117], argTypes := #[23, 23] }, 23, _, _, none⟩) rfl (fun K hK => ?_) AllReadyH.nil
        rw [if_pos (by rfl)]
        refine wp_app (.tmp 115) (.tmp 117) rfl (.slice (some ⟨ge, 0, none⟩) 0 0) (.slice (some ⟨gw, 0, none⟩) body.length (body.length + 8)) [] b2 rfl rfl hOe (HRw.out _ hr4) Hb2l.out ?_
        intro va wr5 hp
        rw [List.nil_append] at hp
        have hr5 : Below w13.heap.size w13 wr5 := hr4.trans ((grow_free (B := w13.heap.size) ⟨ge, rfl, hge⟩ hr4.size hp).2)
        replace hN9 := hp.grown.blk hN9 (hOe.ne hN9 (by decide))
        have hO := hp.1.tail
        obtain ⟨ta, tn, tc, rfl⟩ := hO.sl
        refine hK.out _ _ (HS.out _ hr5) fun hHeld5 => ?_
        clear hK hp
        simp only [Act.put, List.setIfInBounds_toArray, List.set_cons_zero, List.set_cons_succ]
        refine wpAnyH_take (i := 8) (oi := ⟨some 119, Op.build 31 #[(0, Operand.tmp 112), (1, Operand.tmp 114), (2, Operand.tmp 118)], 31, _, _, none⟩) (v := .agg (env3 f t (.slice ta tn tc))) rfl (by kernel_rfl) (by kernel_rfl) (by kernel_rfl) (fun _ _ _ h => h) (Or.inl ⟨by rfl, fun w hS => by unfold env3; go_simp⟩) hHeld5 ?_
        simp only [Act.put, List.setIfInBounds_toArray, List.set_cons_zero, List.set_cons_succ]
        refine wpAnyH_ready (rs := [10]) (by kernel_rfl) (by simp) ?_
        refine AllReadyH.cons (o := ⟨none, Op.store 31 (Operand.tmp 19) (Operand.tmp 119), 0, _, _, none⟩) rfl (fun K hK => ?_) AllReadyH.nil
        rw [if_pos (by rfl)]
        refine wp_store_row 31 (.tmp 19) (.tmp 119) rfl g9 (env3 f t (.slice ta tn tc)) rfl rfl 31 (env3 0 0 (.slice none 0 0)) hN9 (env3_info _ _ _) rfl (env3_one _ _ _ _ _) ?_
        have hNz := hN9.setRow (env3 f t (.slice ta tn tc))
        have hBz := below_setRow hr5 hg9 (env3 f t (.slice ta tn tc))
        have hOz : OwnT (wr5.setRow g9 (env3 f t (.slice ta tn tc))) (.slice ta tn tc) b2 := hO.grown (Grown.setRow (S := fun k => k = g9) _ _ _ fun _ => rfl) fun k hk e => (hO.ne hN9 (by decide)) (by rw [hk, e])
        refine hK.out _ _ (HS.out _ hBz) fun _ => ?_
        clear hK
        refine wpAnyH_done (by kernel_rfl) ?_ _
        go_wp2_with fail
        go_meet
        case rel => exact ⟨g9, ta, tn, tc, rfl, hNz, hOz, hBz⟩
    · refine wp_newA 31 rfl _ Try.new31E ?_
      have hr6 := hD.alloc hD.size (.cells (env3 0 0 (.slice none 0 0)) 31)
      have hN9 := Blk.new wd 31 (env3 0 0 (.slice none 0 0))
      have hg9 : w13.heap.size ≤ wd.heap.size := hD.size
      refine hK.out _ _ (HS.out _ hr6) fun hHeld6 => ?_
      clear hK
      simp only [Act.put, List.setIfInBounds_toArray, List.set_cons_zero, List.set_cons_succ]
      generalize wd.alloc (.cells (env3 0 0 (.slice none 0 0)) 31) = wr6 at *
      obtain ⟨g9, hg92⟩ : ∃ g9, Keep (g9 = wd.heap.size) := ⟨_, ⟨rfl⟩⟩
      rw [← hg92.out] at hN9 hg9 ⊢
      refine wpAnyH_ready (rs := [4]) (by kernel_rfl) (by simp) ?_
      refine AllReadyH.cons (o := ⟨some 115, Op.buildSlice 23 0 #[], 23, _, _, none⟩) rfl (fun K hK => ?_) AllReadyH.nil
      rw [if_pos (by rfl)]
      refine wp_bs 23 0 #[] rfl #[] (by simp) (.slice (some ⟨wr6.heap.size, 0, none⟩) 0 0) (wr6.alloc (.cells #[] 5)) (Try.bs0 _) ?_
      have hr7 := hr6.alloc hr6.size (.cells #[] 5)
      have hOe := own_empty (wr6.alloc (.cells #[] 5)) wr6.heap.size (Blk.new wr6 5 #[])
      have hge : w13.heap.size ≤ wr6.heap.size := hr6.size
      replace hN9 := hN9.alloc (.cells #[] 5)
      refine hK.out _ _ (HS.out _ hr7) fun hHeld7 => ?_
      clear hK
      simp only [Act.put, List.setIfInBounds_toArray, List.set_cons_zero, List.set_cons_succ]
      generalize wr6.alloc (.cells #[] 5) = wr7 at *
      obtain ⟨ge, hge2⟩ : ∃ ge, Keep (ge = wr6.heap.size) := ⟨_, ⟨rfl⟩⟩
      rw [← hge2.out] at hOe hge ⊢
      refine wpAnyH_ready (rs := [7]) (by kernel_rfl) (by simp) ?_
      refine AllReadyH.cons (o := ⟨some 118, Op.call { callee := Callee.builtin Builtin.append, args := #[Operand.tmp 115, Operand.tmp 117], argTypes := #[23, 23] }, 23, _, _, none⟩) rfl (fun K hK => ?_) AllReadyH.nil
      rw [if_pos (by rfl)]
      refine wp_app (.tmp 115) (.tmp 117) rfl (.slice (some ⟨ge, 0, none⟩) 0 0) (.slice (some ⟨gw, 0, none⟩) body.length (body.length + 8)) [] b2 rfl rfl hOe (HRw.out _ hr7) Hb2l.out ?_
      intro va wr8 hp
      rw [List.nil_append] at hp
      have hr8 : Below w13.heap.size w13 wr8 := hr7.trans ((grow_free (B := w13.heap.size) ⟨ge, rfl, hge⟩ hr7.size hp).2)
      replace hN9 := hp.grown.blk hN9 (hOe.ne hN9 (by decide))
      have hO := hp.1.tail
      obtain ⟨ta, tn, tc, rfl⟩ := hO.sl
      refine hK.out _ _ (HS.out _ hr8) fun hHeld8 => ?_
      clear hK hp
      simp only [Act.put, List.setIfInBounds_toArray, List.set_cons_zero, List.set_cons_succ]
      refine wpAnyH_take (i := 8) (oi := ⟨some 119, Op.build 31 #[(0, Operand.tmp 112), (1, Operand.tmp 114), (2, Operand.tmp 118)], 31, _, _, none⟩) (v := .agg (env3 f t (.slice ta tn tc))) rfl (by kernel_rfl) (by kernel_rfl) (by kernel_rfl) (fun _ _ _ h => h) (Or.inl ⟨by rfl, fun w hS => by unfold env3; go_simp⟩) hHeld8 ?_
      simp only [Act.put, List.setIfInBounds_toArray, List.set_cons_zero, List.set_cons_succ]
      refine wpAnyH_ready (rs := [10]) (by kernel_rfl) (by simp) ?_
      refine AllReadyH.cons (o := ⟨none, Op.store 31 (Operand.tmp 19) (Operand.tmp 119), 0, _, _, none⟩) rfl (fun K hK => ?_) AllReadyH.nil
      rw [if_pos (by rfl)]
      refine wp_store_row 31 (.tmp 19) (.tmp 119) rfl g9 (env3 f t (.slice ta tn tc)) rfl rfl 31 (env3 0 0 (.slice none 0 0)) hN9 (env3_info _ _ _) rfl (env3_one _ _ _ _ _) ?_
      have hNz := hN9.setRow (env3 f t (.slice ta tn tc))
      have hBz := below_setRow hr8 hg9 (env3 f t (.slice ta tn tc))
      have hOz : OwnT (wr8.setRow g9 (env3 f t (.slice ta tn tc))) (.slice ta tn tc) b2 := hO.grown (Grown.setRow (S := fun k => k = g9) _ _ _ fun _ => rfl) fun k hk e => (hO.ne hN9 (by decide)) (by rw [hk, e])
      refine hK.out _ _ (HS.out _ hBz) fun _ => ?_
      clear hK
      refine wpAnyH_done (by kernel_rfl) ?_ _
      go_wp2_with fail
      go_meet
      case rel => exact ⟨g9, ta, tn, tc, rfl, hNz, hOz, hBz⟩
  case rest =>
    obtain ⟨g9, ta, tn, tc, hs9, hN9, hO9, hbo⟩ := hcut
    subst hs9
    clear hD HS HRw Hb2l
    have Gw := hbo
    generalize wc = w14 at *
    have HG14 := Keep.mk hN9
    have HT14 := Keep.mk hO9
    clear hN9 hO9 Gw
    have HM14 := Keep.mk (HM13.out.next hbo)
    have HX14 := Keep.mk (HX13.out.grown (Grown.below (S := fun _ => False) hbo) fun _ _ h => h)
    have HY14 := Keep.mk (HY13.out.grown (Grown.below (S := fun _ => False) hbo) fun _ _ h => h)
    have HW14 := Keep.mk (HW13.out.grown (Grown.below (S := fun _ => False) hbo) fun _ _ h => h)
    have HN14 : Keep (N ≤ w14.heap.size) := ⟨Nat.le_trans HN13.out hbo.size⟩
    clear hbo HM13 HX13 HY13 HW13 HN13
    obtain ⟨W2, hW2⟩ : ∃ W2, Keep (W2 = sealW k2 f t b2) := ⟨_, ⟨rfl⟩⟩
    obtain ⟨RM, hRM⟩ : ∃ RM, Keep (RM = resL k2 f t b2) := ⟨_, ⟨rfl⟩⟩
    have hD : Below w14.heap.size w14 w14.drew := (Below.refl _ _).drew
    have HS : Keep (∀ wx, Below w14.heap.size w14 wx → wx.cell? ⟨g9, 0, none⟩ = some (.int .i64 f) ∧ wx.cell? ⟨g9, 1, none⟩ = some (.int .i64 t) ∧ wx.cell? ⟨g9, 2, none⟩ = some (.slice ta tn tc)) := ⟨fun wx hx => env_cells (HG14.out.below hx HG14.out.lt)⟩
    go_wp2_with fail
    refine wp_region_held_drew (S := fun wx => wx.cell? ⟨g9, 0, none⟩ = some (.int .i64 f) ∧ wx.cell? ⟨g9, 1, none⟩ = some (.int .i64 t) ∧ wx.cell? ⟨g9, 2, none⟩ = some (.slice ta tn tc)) (by kernel_rfl) (HS.out _ hD) (fun hHeld => ?_)
    refine wpAnyH_take (i := 0) (oi := ⟨some 121, Op.move (Operand.tmp 6), 23, _, _, none⟩) (v := .slice (some ⟨gk, 0, none⟩) (key.length + 8) (key.length + 8)) rfl (by kernel_rfl) (by kernel_rfl) (by kernel_rfl) (fun _ _ _ h => h) (Or.inl ⟨by rfl, fun w hS => by go_simp⟩) hHeld ?_
    simp only [Act.put, List.setIfInBounds_toArray, List.set_cons_zero, List.set_cons_succ]
    refine wpAnyH_take (i := 1) (oi := ⟨some 122, Op.move (Operand.tmp 0), 23, _, _, none⟩) (v := .slice ka key.length kc) rfl (by kernel_rfl) (by kernel_rfl) (by kernel_rfl) (fun _ _ _ h => h) (Or.inl ⟨by rfl, fun w hS => by go_simp⟩) hHeld ?_
    simp only [Act.put, List.setIfInBounds_toArray, List.set_cons_zero, List.set_cons_succ]
    refine wpAnyH_take (i := 2) (oi := ⟨some 123, Op.call { callee := Callee.builtin Builtin.len, args := #[Operand.tmp 122], argTypes := #[23] }, 3, _, _, none⟩) (v := .int .i64 (key.length : Int)) rfl (by kernel_rfl) (by kernel_rfl) (by kernel_rfl) (fun _ _ _ h => h) (Or.inl ⟨by rfl, fun w hS => by go_simp⟩) hHeld ?_
    simp only [Act.put, List.setIfInBounds_toArray, List.set_cons_zero, List.set_cons_succ]
    refine wpAnyH_take (i := 3) (oi := ⟨some 124, Op.slice 23 (Operand.tmp 121) none (some (Operand.tmp 123)) none, 23, _, _, none⟩) (v := .slice (some ⟨gk, 0, none⟩) key.length (key.length + 8)) rfl (by kernel_rfl) (by kernel_rfl) (by kernel_rfl) (fun _ _ _ h => h) (yieldsIf_slice (by rfl) 23 (Operand.tmp 121) (Operand.tmp 123) rfl _ _ _ rfl rfl hslk) hHeld ?_
    simp only [Act.put, List.setIfInBounds_toArray, List.set_cons_zero, List.set_cons_succ]
    refine wpAnyH_take (i := 4) (oi := ⟨some 125, Op.load 31 (Operand.tmp 19), 31, _, _, none⟩) (v := .agg #[.int .i64 f, .int .i64 t, .slice ta tn tc]) rfl (by kernel_rfl) (by kernel_rfl) (by kernel_rfl) (fun _ _ _ h => h) (Or.inl ⟨by rfl, fun w hS => by obtain ⟨h1, h2, h3⟩ := hS; go_simp⟩) hHeld ?_
    simp only [Act.put, List.setIfInBounds_toArray, List.set_cons_zero, List.set_cons_succ]
    refine wpAnyH_ready (rs := [5]) (by kernel_rfl) (by simp) ?_
    refine AllReadyH.cons (o := ⟨some 126, Op.call { callee := Callee.value (Operand.func 14), args := #[Operand.tmp 124, Operand.tmp 125], argTypes := #[23, 31] }, 33, _, _, none⟩) rfl (fun K hK => ?_) AllReadyH.nil
    rw [if_pos (by rfl)]
    refine wp_callF 14 _ _ rfl Try.enter14 #[.slice (some ⟨gk, 0, none⟩) key.length (key.length + 8), .agg #[.int .i64 f, .int .i64 t, .slice ta tn tc]] (by simp [Act.eval]) (fun vz wz => ∃ a n c, vz = .tuple #[.slice a n c, .int .i64 W2] ∧ Below w14.heap.size w14 wz ∧ OwnT wz (.slice a n c) RM ∧ ∀ k, (Value.slice a n c).ownBlock = some k → w14.heap.size ≤ k) ?_ ?_
    · refine (resP_ref _ _ k2 f t b2 w14.drew (HRk2.out _ (HM14.out.k.below hD HM14.out.k.lt)) (HT14.out.row.below hD) (by rw [Hk2.out]; exact HKl.out) (by rw [Hb2.out]; exact HBl.out)).mono ?_
      rintro e wz ⟨a, n, c, rfl, hbz, hOz, hfz⟩
      exact ⟨_, rfl, a, n, c, by rw [hW2.out], hD.trans (hbz.mono hD.size), by rw [hRM.out]; exact hOz, hfz⟩
    rintro vz w15 ⟨va, vn, vc, rfl, hbo, hOo, hfo⟩
    refine hK.out _ _ (HS.out _ hbo) fun hHeld2 => ?_
    clear hK
    simp only [Act.put, List.setIfInBounds_toArray, List.set_cons_zero, List.set_cons_succ]
    refine wpAnyH_take (i := 6) (oi := ⟨some 120, Op.move (Operand.tmp 126), 33, _, _, none⟩) (v := .tuple #[.slice va vn vc, .int .i64 W2]) rfl (by kernel_rfl) (by kernel_rfl) (by kernel_rfl) (fun _ _ _ h => h) (Or.inl ⟨by rfl, fun w hS => by go_simp⟩) hHeld2 ?_
    simp only [Act.put, List.setIfInBounds_toArray, List.set_cons_zero, List.set_cons_succ]
    refine wpAnyH_take (i := 7) (oi := ⟨some 127, Op.extract (Operand.tmp 120) 0, 23, _, _, none⟩) (v := .slice va vn vc) rfl (by kernel_rfl) (by kernel_rfl) (by kernel_rfl) (fun _ _ _ h => h) (Or.inl ⟨by rfl, fun w hS => by go_simp⟩) hHeld2 ?_
    simp only [Act.put, List.setIfInBounds_toArray, List.set_cons_zero, List.set_cons_succ]
    refine wpAnyH_take (i := 8) (oi := ⟨some 128, Op.extract (Operand.tmp 120) 1, 32, _, _, none⟩) (v := .int .i64 W2) rfl (by kernel_rfl) (by kernel_rfl) (by kernel_rfl) (fun _ _ _ h => h) (Or.inl ⟨by rfl, fun w hS => by go_simp⟩) hHeld2 ?_
    simp only [Act.put, List.setIfInBounds_toArray, List.set_cons_zero, List.set_cons_succ]
    refine wpAnyH_take (i := 9) (oi := ⟨some 20, Op.assign (Operand.tmp 127), 23, _, _, none⟩) (v := .slice va vn vc) rfl (by kernel_rfl) (by kernel_rfl) (by kernel_rfl) (fun _ _ _ h => h) (Or.inl ⟨by rfl, fun w hS => by go_simp⟩) hHeld2 ?_
    simp only [Act.put, List.setIfInBounds_toArray, List.set_cons_zero, List.set_cons_succ]
    refine wpAnyH_take (i := 10) (oi := ⟨some 21, Op.assign (Operand.tmp 128), 32, _, _, none⟩) (v := .int .i64 W2) rfl (by kernel_rfl) (by kernel_rfl) (by kernel_rfl) (fun _ _ _ h => h) (Or.inl ⟨by rfl, fun w hS => by go_simp⟩) hHeld2 ?_
    simp only [Act.put, List.setIfInBounds_toArray, List.set_cons_zero, List.set_cons_succ]
    refine wpAnyH_done (by kernel_rfl) ?_ _
    clear hHeld hHeld2 hD HS
    have HV15 := Keep.mk hOo
    have HM15 := Keep.mk (HM14.out.next hbo)
    have HX15 := Keep.mk (HX14.out.grown (Grown.below (S := fun _ => False) hbo) fun _ _ h => h)
    have HY15 := Keep.mk (HY14.out.grown (Grown.below (S := fun _ => False) hbo) fun _ _ h => h)
    have HW15 := Keep.mk (HW14.out.grown (Grown.below (S := fun _ => False) hbo) fun _ _ h => h)
    have HN15 : Keep (N ≤ w15.heap.size) := ⟨Nat.le_trans HN14.out hbo.size⟩
    clear hbo HM14 HX14 HY14 HW14 HN14
    clear hOo hfo HG14 HT14
    have hD : Below w15.heap.size w15 w15.drew := (Below.refl _ _).drew
    have HS : Keep (∀ wx, Below w15.heap.size w15 wx → wx.cell? ⟨gm, 0, none⟩ = some (.int .i64 f) ∧ wx.cell? ⟨gm, 1, none⟩ = some (.int .i64 t) ∧ wx.cell? ⟨gm, 2, none⟩ = some (.slice (some ⟨gw, 0, none⟩) body.length (body.length + 8))) := ⟨fun wx hx => env_cells (HM15.out.mine.below hx HM15.out.mine.lt)⟩
    go_wp2_with fail
    refine wp_region_held_drew (S := fun wx => wx.cell? ⟨gm, 0, none⟩ = some (.int .i64 f) ∧ wx.cell? ⟨gm, 1, none⟩ = some (.int .i64 t) ∧ wx.cell? ⟨gm, 2, none⟩ = some (.slice (some ⟨gw, 0, none⟩) body.length (body.length + 8))) (by kernel_rfl) (HS.out _ hD) (fun hHeld => ?_)
    refine wpAnyH_take (i := 0) (oi := ⟨some 130, Op.move (Operand.tmp 6), 23, _, _, none⟩) (v := .slice (some ⟨gk, 0, none⟩) (key.length + 8) (key.length + 8)) rfl (by kernel_rfl) (by kernel_rfl) (by kernel_rfl) (fun _ _ _ h => h) (Or.inl ⟨by rfl, fun w hS => by go_simp⟩) hHeld ?_
    simp only [Act.put, List.setIfInBounds_toArray, List.set_cons_zero, List.set_cons_succ]
    refine wpAnyH_take (i := 1) (oi := ⟨some 131, Op.move (Operand.tmp 0), 23, _, _, none⟩) (v := .slice ka key.length kc) rfl (by kernel_rfl) (by kernel_rfl) (by kernel_rfl) (fun _ _ _ h => h) (Or.inl ⟨by rfl, fun w hS => by go_simp⟩) hHeld ?_
    simp only [Act.put, List.setIfInBounds_toArray, List.set_cons_zero, List.set_cons_succ]
    refine wpAnyH_take (i := 2) (oi := ⟨some 132, Op.call { callee := Callee.builtin Builtin.len, args := #[Operand.tmp 131], argTypes := #[23] }, 3, _, _, none⟩) (v := .int .i64 (key.length : Int)) rfl (by kernel_rfl) (by kernel_rfl) (by kernel_rfl) (fun _ _ _ h => h) (Or.inl ⟨by rfl, fun w hS => by go_simp⟩) hHeld ?_
    simp only [Act.put, List.setIfInBounds_toArray, List.set_cons_zero, List.set_cons_succ]
    refine wpAnyH_take (i := 3) (oi := ⟨some 133, Op.slice 23 (Operand.tmp 130) none (some (Operand.tmp 132)) none, 23, _, _, none⟩) (v := .slice (some ⟨gk, 0, none⟩) key.length (key.length + 8)) rfl (by kernel_rfl) (by kernel_rfl) (by kernel_rfl) (fun _ _ _ h => h) (yieldsIf_slice (by rfl) 23 (Operand.tmp 130) (Operand.tmp 132) rfl _ _ _ rfl rfl hslk) hHeld ?_
    simp only [Act.put, List.setIfInBounds_toArray, List.set_cons_zero, List.set_cons_succ]
    refine wpAnyH_take (i := 4) (oi := ⟨some 134, Op.load 31 (Operand.tmp 8), 31, _, _, none⟩) (v := .agg #[.int .i64 f, .int .i64 t, .slice (some ⟨gw, 0, none⟩) body.length (body.length + 8)]) rfl (by kernel_rfl) (by kernel_rfl) (by kernel_rfl) (fun _ _ _ h => h) (Or.inl ⟨by rfl, fun w hS => by obtain ⟨h1, h2, h3⟩ := hS; go_simp⟩) hHeld ?_
    simp only [Act.put, List.setIfInBounds_toArray, List.set_cons_zero, List.set_cons_succ]
    refine wpAnyH_ready (rs := [5]) (by kernel_rfl) (by simp) ?_
    refine AllReadyH.cons (o := ⟨some 135, Op.call { callee := Callee.value (Operand.func 15), args := #[Operand.tmp 133, Operand.tmp 134], argTypes := #[23, 31] }, 33, _, _, none⟩) rfl (fun K hK => ?_) AllReadyH.nil
    rw [if_pos (by rfl)]
    refine wp_callF 15 _ _ rfl Try.enter15 #[.slice (some ⟨gk, 0, none⟩) key.length (key.length + 8), .agg #[.int .i64 f, .int .i64 t, .slice (some ⟨gw, 0, none⟩) body.length (body.length + 8)]] (by simp [Act.eval]) (fun vz wz => ∃ a n c, vz = .tuple #[.slice a n c, .int .i64 W2] ∧ Below w15.heap.size w15 wz ∧ OwnT wz (.slice a n c) RM ∧ ∀ k, (Value.slice a n c).ownBlock = some k → w15.heap.size ≤ k) ?_ ?_
    · refine (resP_prog _ _ k2 f t b2 w15.drew (HRk2.out _ (HM15.out.k.below hD HM15.out.k.lt)) (HRb2.out _ (HM15.out.d.below hD HM15.out.d.lt)) (by rw [Hk2.out]; exact HKl.out) (by rw [Hb2.out]; exact HBl.out) Hby2.out).mono ?_
      rintro e wz ⟨a, n, c, rfl, hbz, hOz, hfz⟩
      exact ⟨_, rfl, a, n, c, by rw [hW2.out], hD.trans (hbz.mono hD.size), by rw [hRM.out]; exact hOz, hfz⟩
    rintro vz w16 ⟨za, zn, zc, rfl, hbo, hOo, hfo⟩
    refine hK.out _ _ (HS.out _ hbo) fun hHeld2 => ?_
    clear hK
    simp only [Act.put, List.setIfInBounds_toArray, List.set_cons_zero, List.set_cons_succ]
    refine wpAnyH_take (i := 6) (oi := ⟨some 129, Op.move (Operand.tmp 135), 33, _, _, none⟩) (v := .tuple #[.slice za zn zc, .int .i64 W2]) rfl (by kernel_rfl) (by kernel_rfl) (by kernel_rfl) (fun _ _ _ h => h) (Or.inl ⟨by rfl, fun w hS => by go_simp⟩) hHeld2 ?_
    simp only [Act.put, List.setIfInBounds_toArray, List.set_cons_zero, List.set_cons_succ]
    refine wpAnyH_take (i := 7) (oi := ⟨some 136, Op.extract (Operand.tmp 129) 0, 23, _, _, none⟩) (v := .slice za zn zc) rfl (by kernel_rfl) (by kernel_rfl) (by kernel_rfl) (fun _ _ _ h => h) (Or.inl ⟨by rfl, fun w hS => by go_simp⟩) hHeld2 ?_
    simp only [Act.put, List.setIfInBounds_toArray, List.set_cons_zero, List.set_cons_succ]
    refine wpAnyH_take (i := 8) (oi := ⟨some 137, Op.extract (Operand.tmp 129) 1, 32, _, _, none⟩) (v := .int .i64 W2) rfl (by kernel_rfl) (by kernel_rfl) (by kernel_rfl) (fun _ _ _ h => h) (Or.inl ⟨by rfl, fun w hS => by go_simp⟩) hHeld2 ?_
    simp only [Act.put, List.setIfInBounds_toArray, List.set_cons_zero, List.set_cons_succ]
    refine wpAnyH_take (i := 9) (oi := ⟨some 22, Op.assign (Operand.tmp 136), 23, _, _, none⟩) (v := .slice za zn zc) rfl (by kernel_rfl) (by kernel_rfl) (by kernel_rfl) (fun _ _ _ h => h) (Or.inl ⟨by rfl, fun w hS => by go_simp⟩) hHeld2 ?_
    simp only [Act.put, List.setIfInBounds_toArray, List.set_cons_zero, List.set_cons_succ]
    refine wpAnyH_take (i := 10) (oi := ⟨some 23, Op.assign (Operand.tmp 137), 32, _, _, none⟩) (v := .int .i64 W2) rfl (by kernel_rfl) (by kernel_rfl) (by kernel_rfl) (fun _ _ _ h => h) (Or.inl ⟨by rfl, fun w hS => by go_simp⟩) hHeld2 ?_
    simp only [Act.put, List.setIfInBounds_toArray, List.set_cons_zero, List.set_cons_succ]
    refine wpAnyH_done (by kernel_rfl) ?_ _
    clear hHeld hHeld2 hD HS
    have HZ16 := Keep.mk hOo
    have Hfz : Keep (∀ k, (Value.slice za zn zc).ownBlock = some k → N ≤ k ∧ (Value.slice xa2 xn2 xc2).ownBlock ≠ some k ∧ (Value.slice ya yn yc).ownBlock ≠ some k) := ⟨fun k h => ⟨Nat.le_trans HN15.out (hfo k h), fun e => by have h1 := HX15.out.lt k e; have h2 := hfo k h; omega, fun e => by have h1 := HY15.out.lt k e; have h2 := hfo k h; omega⟩⟩
    have HV16 := Keep.mk (HV15.out.grown (Grown.below (S := fun _ => False) hbo) fun _ _ h => h)
    have HM16 := Keep.mk (HM15.out.next hbo)
    have HX16 := Keep.mk (HX15.out.grown (Grown.below (S := fun _ => False) hbo) fun _ _ h => h)
    have HY16 := Keep.mk (HY15.out.grown (Grown.below (S := fun _ => False) hbo) fun _ _ h => h)
    have HW16 := Keep.mk (HW15.out.grown (Grown.below (S := fun _ => False) hbo) fun _ _ h => h)
    have HN16 : Keep (N ≤ w16.heap.size) := ⟨Nat.le_trans HN15.out hbo.size⟩
    clear hbo HM15 HX15 HY15 HW15 HN15
    clear hOo hfo HV15
    go_wp2_with fail
    refine (same3_any _ _ RM RM w16 HZ16.out.row HV16.out.row true (by rw [beq_toListBytes, beq_self_eq_true])).mono ?_
    rintro e wq ⟨rfl, hq⟩
    rw [hq]
    clear hq
    go_wp2_with fail
    refine (same3_any _ _ RL RL w16 HX16.out.row HW16.out.row true (by rw [beq_toListBytes, beq_self_eq_true])).mono ?_
    rintro e wq ⟨rfl, hq⟩
    rw [hq]
    clear hq
    have HRLl : Keep (RL.length ≤ 2097194) := ⟨by rw [hRL.out]; exact resL_len _ _ _ _⟩
    have HRMl : Keep (RM.length ≤ 2097194) := ⟨by rw [hRM.out]; exact resL_len _ _ _ _⟩
    go_wp2_with fail
    have hbo := below_new w16 (.cells #[Value.slice xa2 xn2 xc2, .slice ya yn yc, .slice za zn zc] 23)
    have hT := Blk.new w16 23 #[Value.slice xa2 xn2 xc2, .slice ya yn yc, .slice za zn zc]
    obtain ⟨gl, hgl⟩ : ∃ gl, Keep (gl = w16.heap.size) := ⟨_, ⟨rfl⟩⟩
    rw [← hgl.out] at hT ⊢
    generalize w16.alloc (.cells #[Value.slice xa2 xn2 xc2, .slice ya yn yc, .slice za zn zc] 23) = w17 at *
    have hX := HX16.out.grown (Grown.below (S := fun _ => False) hbo) fun _ _ h => h
    have hY := HY16.out.grown (Grown.below (S := fun _ => False) hbo) fun _ _ h => h
    have hZ := HZ16.out.grown (Grown.below (S := fun _ => False) hbo) fun _ _ h => h
    have hlow : Below w.heap.size w w17 := HM16.out.low.trans (hbo.mono HM16.out.low.size)
    have hFil : Fil w17 gl 3 (three (.slice xa2 xn2 xc2) (.slice ya yn yc) (.slice za zn zc)) (three RL RL RM) w17 := ⟨hT, fun j hj => by
      match j, hj with
      | 0, _ => exact hX
      | 1, _ => exact hY
      | 2, _ => exact hZ, Grown.refl _ _⟩
    have hSep : Sep 3 (three (.slice xa2 xn2 xc2) (.slice ya yn yc) (.slice za zn zc)) := fun i j hi hj hij k hk => by
      match i, hi, j, hj with
      | 0, _, 0, _ => exact absurd rfl hij
      | 0, _, 1, _ => exact fun e => (Hfy.out k e).2 hk
      | 0, _, 2, _ => exact fun e => (Hfz.out k e).2.1 hk
      | 1, _, 0, _ => exact (Hfy.out k hk).2
      | 1, _, 1, _ => exact absurd rfl hij
      | 1, _, 2, _ => exact fun e => (Hfz.out k e).2.2 hk
      | 2, _, 0, _ => exact (Hfz.out k hk).2.1
      | 2, _, 1, _ => exact (Hfz.out k hk).2.2
      | 2, _, 2, _ => exact absurd rfl hij
    have hFr : ∀ j, j < 3 → ∀ k, (three (Value.slice xa2 xn2 xc2) (.slice ya yn yc) (.slice za zn zc) j).ownBlock = some k → N ≤ k := fun j hj k hk => by
      match j, hj with
      | 0, _ => exact Hfx.out k hk
      | 1, _ => exact (Hfy.out k hk).1
      | 2, _ => exact (Hfz.out k hk).1
    have hNw : w.heap.size ≤ N := by have h1 := Hgk.out; have h2 := Hlt.out; omega
    refine (grown_any gl 3 _ _ w17 hFil hSep (by omega) (fun j hj => by
      match j, hj with
      | 0, _ => show RL.length + 71 ≤ _; have := HRLl.out; omega
      | 1, _ => show RL.length + 71 ≤ _; have := HRLl.out; omega
      | 2, _ => show RM.length + 71 ≤ _; have := HRMl.out; omega)).mono ?_
    rintro e w18 ⟨rfl, hg⟩
    have HBz := Keep.mk (hlow.trans (hg.to_below (fun k hk ⟨j, hj, e⟩ => by have := hFr j hj k e; omega) hlow.size))
    clear hg hFil hSep hFr hX hY hZ hT hbo hlow
    go_wp2
    go_ret
    exact ⟨rfl, HBz.out⟩
end Go.Proofs.Ytpakaladpdoejaa
